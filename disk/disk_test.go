package disk_test

import (
	"math"
	"strings"
	"testing"

	"writkeep/api"
	"writkeep/disk"
)

// padded: a sector that begins so, with noughts behind.
func padded(s string) string { return s + strings.Repeat("\x00", api.Sector-len(s)) }

// fresh disk of so many sectors.
func fresh(t *testing.T, n int) *disk.Disk {
	t.Helper()
	d, err := disk.New(n)
	if d == nil || err != nil {
		t.Fatalf("New(%d): %v %v", n, d, err)
	}
	return d
}

// does: the call must go well.
func does(t *testing.T, err error) {
	t.Helper()
	if err != nil {
		t.Fatalf("it answers %v", err)
	}
}

// fails: the call must answer that error, a bare one.
func fails(t *testing.T, what string, err error, want api.Errno) {
	t.Helper()
	if err != error(want) {
		t.Errorf("%s: %v, not %v", what, err, want)
	}
}

// has: the sectors of the disk, from 0 on, must begin so, with noughts behind.
func has(t *testing.T, d *disk.Disk, want ...string) {
	t.Helper()
	if d.Sectors() != len(want) {
		t.Errorf("Sectors() = %d, not %d", d.Sectors(), len(want))
	}
	for at, w := range want {
		if s, err := d.Read(at); s != padded(w) || err != nil {
			t.Errorf("Read(%d) = %q, %v, not %q", at, s, err, w)
		}
	}
}

func TestG1New(t *testing.T) {
	for _, n := range []int{1, 2, 100, api.Sectors - 1, api.Sectors} {
		d := fresh(t, n)
		has(t, d, make([]string, n)...)
		if d.Down() {
			t.Errorf("New(%d) is down", n)
		}
	}
	for _, n := range []int{0, -1, api.Sectors + 1, 1 << 32, math.MinInt, math.MaxInt} {
		d, err := disk.New(n)
		fails(t, "New", err, api.ErrBound)
		if d != nil {
			t.Errorf("New(%d): a disk beside an error", n)
		}
	}
}

// outside of a disk of n sectors.
func outside(n int) []int { return []int{-1, n, n + 1, api.Sectors, 1 << 32, math.MinInt, math.MaxInt} }

func TestG1Bounds(t *testing.T) {
	for _, n := range []int{1, 3, api.Sectors} {
		d := fresh(t, n)
		for _, at := range outside(n) {
			s, err := d.Read(at)
			fails(t, "Read", err, api.ErrBound)
			if s != "" {
				t.Errorf("Read(%d): %q beside an error", at, s)
			}
			fails(t, "Write", d.Write(at, "x"), api.ErrBound)
		}
		for _, long := range []int{api.Sector + 1, api.Sector + 2, 1000} {
			fails(t, "Write", d.Write(0, strings.Repeat("x", long)), api.ErrBound)
		}
		has(t, d, make([]string, n)...)
		d.Restart(math.MaxUint64)
		has(t, d, make([]string, n)...)
	}
}

func TestG1Write(t *testing.T) {
	d := fresh(t, 4)
	all := ""
	for b := range 256 {
		all += string([]byte{byte(b)})
	}
	for at := range 4 {
		for _, data := range []string{strings.Repeat("z", api.Sector), "", "a", strings.Repeat("y", api.Sector-1), "\x00a\x00", all[0:48], all[200:248], all[247:]} {
			does(t, d.Write(at, data))
			want := make([]string, 4)
			want[at] = data
			has(t, d, want...)
		}
		does(t, d.Write(at, ""))
	}
	does(t, d.Write(1, "one"))
	does(t, d.Write(3, "three"))
	does(t, d.Write(1, "1"))
	has(t, d, "", "1", "", "three")
}

// TestG2Steps: so many steps are left as it was armed with, writes and flushes alike; what isn't a step takes none.
func TestG2Steps(t *testing.T) {
	for n := range 7 {
		d := fresh(t, 2)
		d.Arm(n)
		for i := range n {
			fails(t, "Write", d.Write(2, "x"), api.ErrBound)
			if _, err := d.Read(0); err != nil || d.Down() {
				t.Fatalf("Arm(%d): down at step %d", n, i)
			}
			if i%3 == 2 {
				does(t, d.Flush())
			} else {
				does(t, d.Write(1, "y"))
			}
		}
		if d.Down() {
			t.Errorf("Arm(%d): it is down with no step beyond", n)
		}
		if n%2 == 0 {
			fails(t, "Write", d.Write(0, "z"), api.ErrDown)
		} else {
			fails(t, "Flush", d.Flush(), api.ErrDown)
		}
		if !d.Down() {
			t.Errorf("Arm(%d): it isn't down", n)
		}
	}
}

// TestG2Down: what is down stays so, also if it is armed otherwise, until it is restarted.
func TestG2Down(t *testing.T) {
	for _, again := range []int{-1, 0, 3} {
		d := fresh(t, 2)
		does(t, d.Write(0, "kept"))
		does(t, d.Flush())
		d.Arm(0)
		fails(t, "Flush", d.Flush(), api.ErrDown)
		d.Arm(again)
		for range 5 {
			fails(t, "Write", d.Write(0, "x"), api.ErrDown)
			fails(t, "Flush", d.Flush(), api.ErrDown)
			s, err := d.Read(0)
			fails(t, "Read", err, api.ErrDown)
			if s != "" || !d.Down() || d.Sectors() != 2 {
				t.Errorf("down: Read %q, Down %v, Sectors %d", s, d.Down(), d.Sectors())
			}
		}
		d.Restart(math.MaxUint64)
		if d.Down() {
			t.Error("Restart: it is down")
		}
		has(t, d, "kept", "")
		for range 9 {
			does(t, d.Write(1, "on"))
			does(t, d.Flush())
		}
	}
}

func TestG2NotArmed(t *testing.T) {
	for _, n := range []int{-1, -2, math.MinInt} {
		d := fresh(t, 1)
		d.Arm(1)
		d.Arm(n)
		for range 100 {
			does(t, d.Write(0, "a"))
			does(t, d.Flush())
		}
	}
	d := fresh(t, 1)
	for range 100 {
		does(t, d.Flush())
	}
	d.Arm(0)
	d.Arm(2)
	does(t, d.Write(0, "a"))
	does(t, d.Flush())
	fails(t, "Flush", d.Flush(), api.ErrDown)
	d.Restart(0)
	does(t, d.Flush())
	d.Arm(math.MaxInt)
	does(t, d.Flush())
	d.Arm(5)
	d.Restart(0)
	for range 9 {
		does(t, d.Flush())
	}
}

// TestG2Fallen: a step at which it falls does nothing.
func TestG2Fallen(t *testing.T) {
	d := fresh(t, 1)
	d.Arm(0)
	fails(t, "Write", d.Write(0, "x"), api.ErrDown)
	d.Restart(math.MaxUint64)
	has(t, d, "")
	does(t, d.Write(0, "y"))
	d.Arm(0)
	fails(t, "Flush", d.Flush(), api.ErrDown)
	d.Restart(0)
	has(t, d, "")
}

// TestG3Bits: each write hangs on its own bit.
func TestG3Bits(t *testing.T) {
	for keep := range uint64(1 << 6) {
		d := fresh(t, 3)
		does(t, d.Write(0, "was"))
		does(t, d.Flush())
		want := []string{"was", "", ""}
		for i, at := range []int{1, 0, 1, 2, 0} {
			data := strings.Repeat("b", i+1)
			does(t, d.Write(at, data))
			if keep>>i&1 == 1 {
				want[at] = data
			}
		}
		d.Restart(keep)
		has(t, d, want...)
		d.Restart(0)
		has(t, d, want...)
		d.Restart(math.MaxUint64)
		has(t, d, want...)
	}
}

// TestG3Modulo: with more than 64 writes one bit stands for several.
func TestG3Modulo(t *testing.T) {
	const n = 150
	for bit := range 64 {
		d, other := fresh(t, n), fresh(t, n)
		want, rest := make([]string, n), make([]string, n)
		for i := range n {
			does(t, d.Write(i, "x"))
			does(t, other.Write(i, "x"))
			if i%64 == bit {
				want[i] = "x"
			} else {
				rest[i] = "x"
			}
		}
		d.Restart(1 << bit)
		has(t, d, want...)
		other.Restart(^uint64(1 << bit))
		has(t, other, rest...)
	}
}

// TestG3Numbers: they begin anew behind a flush, and behind a restart; who failed has none.
func TestG3Numbers(t *testing.T) {
	d := fresh(t, 3)
	does(t, d.Write(0, "a"))
	does(t, d.Write(0, "b"))
	does(t, d.Flush())
	fails(t, "Write", d.Write(3, "x"), api.ErrBound)
	fails(t, "Write", d.Write(0, strings.Repeat("x", 49)), api.ErrBound)
	does(t, d.Write(1, "c"))
	does(t, d.Write(2, "d"))
	d.Restart(1)
	has(t, d, "b", "c", "")
	does(t, d.Write(2, "e"))
	does(t, d.Write(0, "f"))
	d.Restart(1)
	has(t, d, "b", "c", "e")
	does(t, d.Flush())
	d.Restart(0)
	has(t, d, "b", "c", "e")
}

// die: numbers that look drawn, the same each time.
type die uint64

func (d *die) n(most int) int {
	*d = *d*6364136223846793005 + 1442695040888963407
	return int(uint64(*d>>33) % uint64(most))
}

// TestG3Falls: a fall at each step of drawn writes and flushes, with none, all, and any single one of what isn't kept: what is there is told by what was done.
func TestG3Falls(t *testing.T) {
	const n, steps = 4, 12
	keeps := []uint64{0, math.MaxUint64}
	for i := range steps {
		keeps = append(keeps, 1<<i, ^uint64(1<<i))
	}
	for seed := range 20 {
		for fall := range steps + 1 {
			for _, keep := range keeps {
				draw := die(seed)
				d := fresh(t, n)
				d.Arm(fall)
				now, kept, unkept := make([]string, n), make([]string, n), 0
				for step := range steps {
					at, data := draw.n(n), strings.Repeat("x", draw.n(api.Sector+1))
					flush := draw.n(4) == 0
					var err error
					if flush {
						err = d.Flush()
					} else {
						err = d.Write(at, data)
					}
					if step >= fall {
						fails(t, "behind the fall", err, api.ErrDown)
						continue
					}
					does(t, err)
					switch {
					case flush:
						copy(kept, now)
						unkept = 0
					default:
						now[at] = data
						if keep>>unkept&1 == 1 {
							// Whether it is to be kept is known ahead; if a flush comes, all are.
							kept[at] = data
						}
						unkept++
					}
				}
				if fall >= steps {
					has(t, d, now...)
				}
				if d.Down() != (fall < steps) {
					t.Fatalf("a fall at %d: Down() is %v", fall, d.Down())
				}
				d.Restart(keep)
				has(t, d, kept...)
				d.Restart(0)
				has(t, d, kept...)
			}
		}
	}
}

// TestZ2Apart: two disks have nothing of each other.
func TestZ2Apart(t *testing.T) {
	a, b := fresh(t, 2), fresh(t, 2)
	does(t, a.Write(0, "a"))
	a.Arm(0)
	does(t, b.Write(1, "b"))
	does(t, b.Flush())
	fails(t, "Flush", a.Flush(), api.ErrDown)
	has(t, b, "", "b")
	a.Restart(0)
	has(t, a, "", "")
}

// TestZ3First: of several errors the one named first is told.
func TestZ3First(t *testing.T) {
	d := fresh(t, 2)
	d.Arm(0)
	fails(t, "Write that may not be, ahead of a fall", d.Write(2, "x"), api.ErrBound)
	if d.Down() {
		t.Error("a Write that may not be is no step")
	}
	fails(t, "Write", d.Write(0, "x"), api.ErrDown)
	for _, at := range outside(2) {
		_, err := d.Read(at)
		fails(t, "Read, down", err, api.ErrDown)
		fails(t, "Write, down", d.Write(at, "x"), api.ErrBound)
	}
	fails(t, "Write, down", d.Write(0, strings.Repeat("x", 49)), api.ErrBound)
}
