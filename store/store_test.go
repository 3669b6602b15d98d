package store_test

import (
	"encoding/binary"
	"fmt"
	"maps"
	"slices"
	"strings"
	"testing"

	"writkeep/api"
	"writkeep/disk"
	"writkeep/log"
	"writkeep/row"
	"writkeep/store"
)

// The document's numbers: the fewest sectors, and where the log begins.
const (
	least = 166
	logAt = 102
)

// die: numbers that look drawn, the same each time.
type die uint64

func (d *die) n(most int) int {
	*d = *d*6364136223846793005 + 1442695040888963407
	return int(uint64(*d>>33) % uint64(most))
}

func long(n int) string { return strings.Repeat("k", n) }

func is(key, val string) api.Change { return api.Change{Key: key, Val: val} }

func gone(key string) api.Change { return api.Change{Key: key, Gone: true} }

// great rows: so many, from a number on, as long as they may be, rising.
func great(from, n int) []api.Change {
	var l []api.Change
	for i := range n {
		l = append(l, is(fmt.Sprintf("r%07d", from+i), strings.Repeat(string(rune('a'+(from+i)%26)), api.MaxVal)))
	}
	return l
}

// allGone: these rows, no more.
func allGone(l []api.Change) []api.Change {
	var out []api.Change
	for _, c := range l {
		out = append(out, gone(c.Key))
	}
	return out
}

// fresh disk of so many sectors.
func fresh(t *testing.T, n int) *disk.Disk {
	t.Helper()
	d, err := disk.New(n)
	if err != nil {
		t.Fatal(err)
	}
	return d
}

// does: the call must go well.
func does(t *testing.T, err error) {
	t.Helper()
	if err != nil {
		t.Fatalf("it answers %v", err)
	}
}

// formatted: an empty store on a disk.
func formatted(t *testing.T, d *disk.Disk) *store.Store {
	t.Helper()
	does(t, store.Format(d))
	return opened(t, d, nil, d.Sectors()-logAt)
}

// opened: the store must have these rows, and that room.
func opened(t *testing.T, d *disk.Disk, want []api.Change, room int) *store.Store {
	t.Helper()
	s, err := store.Open(d)
	if s == nil || err != nil {
		t.Fatalf("Open: %v", err)
	}
	has(t, s, want, room)
	return s
}

func has(t *testing.T, s *store.Store, want []api.Change, room int) {
	t.Helper()
	if got := s.Rows(); !slices.Equal(got, want) {
		t.Fatalf("Rows() = %v, not %v", got, want)
	}
	if s.Room() != room {
		t.Fatalf("Room() = %d, not %d", s.Room(), room)
	}
}

// sectorsOf a disk.
func sectorsOf(t *testing.T, d *disk.Disk) []string {
	t.Helper()
	var l []string
	for at := range d.Sectors() {
		s, err := d.Read(at)
		if err != nil {
			t.Fatal(err)
		}
		l = append(l, s)
	}
	return l
}

// twin: another disk with the same on it.
func twin(t *testing.T, d *disk.Disk) *disk.Disk {
	t.Helper()
	x := fresh(t, d.Sectors())
	for at, s := range sectorsOf(t, d) {
		if x.Write(at, s) != nil {
			t.Fatal("it isn't written")
		}
	}
	does(t, x.Flush())
	return x
}

// down: the disk falls.
func down(t *testing.T, d *disk.Disk) {
	t.Helper()
	d.Arm(0)
	if d.Flush() == nil {
		t.Fatal("it isn't down")
	}
}

func TestJ1Small(t *testing.T) {
	for _, n := range []int{1, 2, logAt, least - 1} {
		d := fresh(t, n)
		d.Arm(0)
		if err := store.Format(d); err != error(api.ErrFull) || d.Down() {
			t.Errorf("Format of %d sectors: %v, and it is down: %v", n, err, d.Down())
		}
		if s, err := store.Open(d); err != error(api.ErrText) || s != nil {
			t.Errorf("Open of %d sectors: %v, %v", n, s, err)
		}
		down(t, d)
		if err := store.Format(d); err != error(api.ErrFull) {
			t.Errorf("Format of %d sectors that are down: %v", n, err)
		}
	}
}

// TestJ1None: there is no store on noughts, on any bytes, nor on too few sectors of one.
func TestJ1None(t *testing.T) {
	draw := die(101)
	for range 50 {
		d := fresh(t, least)
		if s, err := store.Open(d); err != error(api.ErrText) || s != nil {
			t.Errorf("Open of noughts: %v, %v", s, err)
		}
		for at := range least {
			b := make([]byte, api.Sector)
			for i := range b {
				b[i] = byte(draw.n(256))
			}
			does(t, d.Write(at, string(b)))
		}
		if s, err := store.Open(d); err != error(api.ErrText) || s != nil {
			t.Errorf("Open of any bytes: %v, %v", s, err)
		}
	}
	d, small := fresh(t, least), fresh(t, least-1)
	does(t, formatted(t, d).Commit(great(0, 5)))
	for at, s := range sectorsOf(t, d)[:least-1] {
		does(t, small.Write(at, s))
	}
	if s, err := store.Open(small); err != error(api.ErrText) || s != nil {
		t.Errorf("Open of a store's sectors, but one: %v, %v", s, err)
	}
}

// TestJ1Smashed: where all but the log is another thing there is no store; nothing panics, whichever byte is another one.
func TestJ1Smashed(t *testing.T) {
	d := fresh(t, least)
	s := formatted(t, d)
	does(t, s.Commit(great(0, 3)))
	does(t, s.Checkpoint())
	does(t, s.Commit(great(3, 3)))
	x := twin(t, d)
	for at := range logAt {
		does(t, x.Write(at, "writ"))
	}
	if s, err := store.Open(x); err != error(api.ErrText) || s != nil {
		t.Errorf("Open of what was smashed: %v, %v", s, err)
	}
	for at, s := range sectorsOf(t, d) {
		for i := range s {
			b := []byte(s)
			for _, by := range []byte{1, 128, 255} {
				b[i] ^= by
				does(t, d.Write(at, string(b)))
				if x, err := store.Open(d); err == nil {
					x.Rows()
				} else if err != error(api.ErrText) || x != nil {
					t.Fatalf("sector %d, byte %d: %v, %v", at, i, x, err)
				}
			}
		}
		does(t, d.Write(at, s))
	}
}

func TestJ1Down(t *testing.T) {
	d := fresh(t, least)
	formatted(t, d)
	for _, x := range []*disk.Disk{fresh(t, 1), fresh(t, least), d} {
		down(t, x)
		if s, err := store.Open(x); err != error(api.ErrDown) || s != nil {
			t.Errorf("Open of what is down: %v, %v", s, err)
		}
		if x.Sectors() >= least {
			if err := store.Format(x); err != error(api.ErrDown) {
				t.Errorf("Format of what is down: %v", err)
			}
		}
	}
}

// TestJ1Format: an empty store, for good, on noughts.
func TestJ1Format(t *testing.T) {
	for _, n := range []int{least, least + 1, 170, api.Sectors} {
		d := fresh(t, n)
		does(t, store.Format(d))
		d.Restart(0)
		s := opened(t, d, nil, n-logAt)
		does(t, s.Commit([]api.Change{is("a", "1")}))
		d.Restart(0)
		opened(t, d, []api.Change{is("a", "1")}, n-logAt-2)
	}
}

// TestJ1Anew: of what was on the disk nothing is there when it is formatted anew, nor later.
func TestJ1Anew(t *testing.T) {
	for ahead := range 6 {
		d := fresh(t, least)
		s := formatted(t, d)
		for i := range ahead {
			does(t, s.Commit(great(10*i, 7)))
			if i%2 == 0 {
				does(t, s.Checkpoint())
			}
		}
		does(t, s.Commit([]api.Change{is("old", "1")}))
		does(t, store.Format(d))
		d.Restart(0)
		s = opened(t, d, nil, least-logAt)
		var want []api.Change
		for i := range 8 {
			does(t, s.Checkpoint())
			s = opened(t, d, want, least-logAt)
			if i%3 == 2 {
				does(t, s.Commit([]api.Change{is(fmt.Sprint(i), "")}))
				want = append(want, is(fmt.Sprint(i), ""))
				s = opened(t, d, want, least-logAt-2)
			}
		}
	}
}

// TestJ1Stood: whatever numbers stood in the log's sectors, nothing of it is read, neither when it is formatted nor when the log begins anew.
func TestJ1Stood(t *testing.T) {
	const n = least - logAt
	for first := 1; first < 8*n; first++ {
		d := fresh(t, least)
		l, _, err := log.Open(d, logAt, n, first)
		does(t, err)
		does(t, l.Add([]api.Change{is("stood", "1")}))
		does(t, l.Add([]api.Change{is("there", "2")}))
		s := formatted(t, d)
		for range 5 {
			does(t, s.Checkpoint())
			s = opened(t, d, nil, n)
		}
		does(t, s.Commit(nil))
		opened(t, d, nil, n-1)
	}
}

// TestJ1Log: deeds stand in the sectors from 102 on, as a log has them.
func TestJ1Log(t *testing.T) {
	for _, n := range []int{least, api.Sectors} {
		d := fresh(t, n)
		s := formatted(t, d)
		does(t, s.Commit(great(0, 2)))
		does(t, s.Checkpoint())
		deeds := [][]api.Change{great(2, 3), nil, {gone("r0000000")}}
		for _, l := range deeds {
			does(t, s.Commit(l))
		}
		sector, err := d.Read(logAt)
		does(t, err)
		l, got, err := log.Open(d, logAt, n-logAt, int(binary.LittleEndian.Uint32([]byte(sector[1:5]))))
		does(t, err)
		if !slices.EqualFunc(got, deeds, slices.Equal[[]api.Change]) || l.Room() != s.Room() {
			t.Errorf("the log has %v, and room for %d, not %v, %d", got, l.Room(), deeds, s.Room())
		}
	}
}

// TestJ2Commit: rows are what the changes make of them, for good; as many sectors as they are, and one, are used.
func TestJ2Commit(t *testing.T) {
	d := fresh(t, api.Sectors)
	s := formatted(t, d)
	var want []api.Change
	room := api.Sectors - logAt
	for _, l := range [][]api.Change{
		{is("b", "1"), is("a", "2")}, nil, {gone("a")}, {gone("none")}, {is("b", ""), is(long(8), long(24)), is("b", "3")},
		{is("x", "1"), gone("x")}, {gone("b"), is("b", "4")}, {}, {is("\x00", "\xff\x00")},
	} {
		does(t, s.Commit(l))
		want, room = row.Apply(want, l), room-len(l)-1
		has(t, s, want, room)
		opened(t, d, want, room)
		d.Restart(0)
		s = opened(t, d, want, room)
	}
	if len(want) != 3 {
		t.Errorf("rows: %v", want)
	}
}

// TestJ2Room: deeds go in up to the log's last sector; one that has no room makes a checkpoint ahead of it.
func TestJ2Room(t *testing.T) {
	for n := least; n <= least+3; n++ {
		all := n - logAt
		for _, c := range []struct{ ahead, one, room int }{
			{0, 62, all - 63},
			{all - 1, 0, 0}, {all, 0, all - 1}, {all - 2, 1, 0}, {all - 1, 1, all - 2}, {all, 1, all - 2},
			{all - 60, 59, 0}, {all - 59, 59, all - 60}, {all - 1, 59, all - 60},
		} {
			d := fresh(t, n)
			s := formatted(t, d)
			for range c.ahead {
				does(t, s.Commit(nil))
			}
			has(t, s, nil, all-c.ahead)
			var l []api.Change
			for i := range c.one {
				l = append(l, great(i%9, 1)...)
			}
			does(t, s.Commit(l))
			has(t, s, great(0, min(9, c.one)), c.room)
			d.Restart(0)
			opened(t, d, great(0, min(9, c.one)), c.room)
		}
	}
}

// refuses: the error is told, and neither the store nor the disk is altered.
func refuses(t *testing.T, d *disk.Disk, s *store.Store, l []api.Change, want api.Errno) {
	t.Helper()
	was, rows, room := sectorsOf(t, d), s.Rows(), s.Room()
	d.Arm(0)
	if err := s.Commit(l); err != error(want) {
		t.Errorf("Commit of %d changes: %v, not %v", len(l), err, want)
	}
	if d.Down() {
		t.Fatal("a step was taken")
	}
	d.Arm(-1)
	has(t, s, rows, room)
	if !slices.Equal(sectorsOf(t, d), was) {
		t.Error("the disk was altered")
	}
}

func TestJ2MaxChanges(t *testing.T) {
	var l []api.Change
	for i := range api.MaxChanges {
		l = append(l, is("k", long(i%25)))
	}
	for _, n := range []int{least, api.Sectors} {
		d := fresh(t, n)
		s := formatted(t, d)
		refuses(t, d, s, append(slices.Clone(l), is("x", "")), api.ErrMany)
		for range 4 {
			does(t, s.Commit(l))
			opened(t, d, l[len(l)-1:], s.Room())
		}
	}
}

// TestJ2MaxRows: rows may be MaxRows, behind all changes of a deed, whatever they were between.
func TestJ2MaxRows(t *testing.T) {
	d := fresh(t, least)
	s := formatted(t, d)
	refuses(t, d, s, great(0, api.MaxRows+1), api.ErrFull)
	does(t, s.Commit(great(0, api.MaxRows)))
	refuses(t, d, s, great(api.MaxRows, 1), api.ErrFull)
	refuses(t, d, s, []api.Change{is("a", ""), gone("b")}, api.ErrFull)
	refuses(t, d, s, []api.Change{gone("r0000000"), is("a", ""), is("b", "")}, api.ErrFull)
	// With no room in the log either nothing is laid for what is refused.
	has(t, s, great(0, api.MaxRows), 3)
	refuses(t, d, s, []api.Change{is("a", ""), is("b", ""), is("c", "")}, api.ErrFull)
	does(t, s.Commit([]api.Change{is("a", "1"), gone("r0000000")}))
	want := append([]api.Change{is("a", "1")}, great(1, api.MaxRows-1)...)
	opened(t, d, want, 0)
	does(t, s.Commit([]api.Change{is("a", "2"), gone("none")}))
	want[0].Val = "2"
	opened(t, d, want, least-logAt-3)
	does(t, s.Commit(allGone(want)))
	opened(t, d, nil, 0)
	for range 3 {
		does(t, s.Commit(great(0, api.MaxRows)))
		opened(t, d, great(0, api.MaxRows), 3)
		does(t, s.Commit(allGone(great(0, api.MaxRows))))
		opened(t, d, nil, 3)
	}
}

// TestZ3First: too many, then what may not be, in order, then too many rows, then what is down.
func TestZ3First(t *testing.T) {
	d := fresh(t, least)
	s := formatted(t, d)
	does(t, s.Commit(great(0, api.MaxRows)))
	many := great(0, api.MaxChanges+1)
	many[0] = api.Change{}
	shape, key := api.Change{Key: "a", Val: "b", Gone: true}, is(long(9), "")
	for _, c := range []struct {
		l    []api.Change
		want api.Errno
	}{
		{many, api.ErrMany},
		{[]api.Change{is("n", ""), shape}, api.ErrShape},
		{[]api.Change{is("n", ""), is("v", long(25)), shape}, api.ErrMany},
		{[]api.Change{is("n", ""), shape, key}, api.ErrShape},
		{[]api.Change{gone("r0000000"), {}}, api.ErrShape},
		{[]api.Change{is("n", "")}, api.ErrFull},
	} {
		refuses(t, d, s, c.l, c.want)
		x := twin(t, d)
		y := opened(t, x, great(0, api.MaxRows), 3)
		down(t, x)
		if err := y.Commit(c.l); err != error(c.want) {
			t.Errorf("Commit to what is down: %v, not %v", err, c.want)
		}
	}
	down(t, d)
	for _, err := range []error{s.Commit(nil), s.Commit([]api.Change{gone("x")}), s.Commit(great(0, 5)), s.Checkpoint()} {
		if err != error(api.ErrDown) {
			t.Errorf("to what is down: %v", err)
		}
	}
}

// TestJ3Checkpoint: rows are as they were, for good, and all of the log is free.
func TestJ3Checkpoint(t *testing.T) {
	for _, n := range []int{least, api.Sectors} {
		d := fresh(t, n)
		s := formatted(t, d)
		all := n - logAt
		for rows := range api.MaxRows + 1 {
			want := great(rows%7, rows)
			does(t, s.Commit(want))
			does(t, s.Checkpoint())
			has(t, s, want, all)
			d.Restart(0)
			s = opened(t, d, want, all)
			does(t, s.Checkpoint())
			does(t, s.Checkpoint())
			d.Restart(0)
			s = opened(t, d, want, all)
			does(t, s.Commit(allGone(want)))
			s = opened(t, d, nil, all-rows-1)
			does(t, s.Checkpoint())
			s = opened(t, d, nil, all)
		}
	}
}

// TestJ3Rows: rows of any bytes, as short and as long as they may be.
func TestJ3Rows(t *testing.T) {
	d := fresh(t, least)
	s := formatted(t, d)
	var l []api.Change
	for b := range 50 {
		l = append(l, is(strings.Repeat(string([]byte{byte(5 * b)}), 1+b%8), strings.Repeat(string([]byte{byte(255 - b)}), b%25)))
	}
	does(t, s.Commit(l))
	want := s.Rows()
	if !slices.Equal(want, row.Apply(nil, l)) {
		t.Fatalf("Rows() = %v", want)
	}
	does(t, s.Checkpoint())
	opened(t, d, want, least-logAt)
}

// TestJDrawn: whatever is done, rows are those of a map, and room is what deeds left.
func TestJDrawn(t *testing.T) {
	draw := die(102)
	for range 60 {
		n := least + draw.n(35)
		d := fresh(t, n)
		s := formatted(t, d)
		all := n - logAt
		rows, room := map[string]string{}, all
		for range 60 {
			was := maps.Clone(rows)
			var l []api.Change
			for range draw.n(20) {
				c := is(fmt.Sprint("r", draw.n(70)), long(draw.n(25)))
				if rows[c.Key] = c.Val; draw.n(4) == 0 {
					c.Val, c.Gone = "", true
					delete(rows, c.Key)
				}
				l = append(l, c)
			}
			err := s.Commit(l)
			switch {
			case len(rows) > api.MaxRows:
				if rows = was; err != error(api.ErrFull) {
					t.Fatalf("too many rows: %v", err)
				}
			case err != nil:
				t.Fatalf("Commit: %v", err)
			case len(l)+1 > room:
				room = all - len(l) - 1
			default:
				room -= len(l) + 1
			}
			switch draw.n(6) {
			case 0:
				does(t, s.Checkpoint())
				room = all
			case 1:
				d.Restart(uint64(draw.n(1 << 30)))
				s, err = store.Open(d)
				does(t, err)
			}
			var want []api.Change
			for _, key := range slices.Sorted(maps.Keys(rows)) {
				want = append(want, is(key, rows[key]))
			}
			has(t, s, want, room)
		}
	}
}

// TestZ2: changes that are handed in are as they were, with what stands behind them, and rows are the caller's own.
func TestZ2(t *testing.T) {
	d := fresh(t, least)
	s := formatted(t, d)
	want := great(0, 4)
	l := append(great(0, 4), gone("r0000001"), api.Change{})
	was := slices.Clone(l)
	does(t, s.Commit(l[:4]))
	if !slices.Equal(l, was) {
		t.Error("Commit writes into what is handed in")
	}
	for i := range l {
		l[i] = is("mine", "")
	}
	has(t, s, want, least-logAt-5)
	for range 2 {
		a, b := s.Rows(), s.Rows()
		a = a[:cap(a)]
		for i := range a {
			a[i] = is("mine", "")
		}
		if !slices.Equal(b, want) {
			t.Error("two answers share memory")
		}
		has(t, s, want, s.Room())
		does(t, s.Checkpoint())
		s = opened(t, d, want, least-logAt)
	}
}
