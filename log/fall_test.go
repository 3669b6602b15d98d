package log_test

import (
	"slices"
	"testing"

	"writkeep/api"
	"writkeep/disk"
	"writkeep/log"
)

// keeps: of so many writes that weren't flushed none, all, any single one, and all but one.
func keeps(writes int) []uint64 {
	l := []uint64{0, ^uint64(0)}
	for i := range writes {
		l = append(l, 1<<i, ^uint64(1<<i))
	}
	return l
}

// stepsOf a deed of so many changes: more than are needed.
func stepsOf(n int) int { return 3*n + 12 }

// fallen: a deed is added, with a fall at a step, behind which some of what was written is kept. The log, as it is opened again, must have what it had, and the deed, if it was added; if it fell, the deed as a whole, or nothing of it. It tells the log, its deeds, and whether it fell.
func fallen(t *testing.T, d *disk.Disk, size, first int, had [][]api.Change, c []api.Change, step int, keep uint64) (*log.Log, [][]api.Change, bool) {
	t.Helper()
	l, _, err := log.Open(d, 1, size, first)
	if err != nil {
		t.Fatal(err)
	}
	d.Arm(step)
	err = l.Add(c)
	fell := d.Down()
	if fell != (err == error(api.ErrDown)) || !fell && err != nil {
		t.Fatalf("step %d: Add: %v, and it is down: %v", step, err, fell)
	}
	d.Restart(keep)
	l, deeds, err := log.Open(d, 1, size, first)
	if err != nil {
		t.Fatal(err)
	}
	all := append(slices.Clone(had), c)
	if !same(deeds, all) && !(fell && same(deeds, had)) {
		t.Fatalf("step %d, keep %x, fell %v: %v, neither %v nor %v", step, keep, fell, deeds, had, all)
	}
	return l, deeds, fell
}

// TestI2Falls: a fall at each step of a deed, on sectors where anything stood, and then another one.
func TestI2Falls(t *testing.T) {
	draw := die(92)
	const size = 9
	whole := 0
	for range 250 {
		first := 1 + draw.n(3)
		var sectors []string
		for i := range size {
			sectors = append(sectors, drawn(&draw, uint32(first+i)))
		}
		n := draw.n(4)
		for step, fell := 0, true; fell; step++ {
			if step > stepsOf(n) {
				t.Fatalf("%d steps for %d changes", step, n)
			}
			for _, keep := range keeps(n + 3) {
				d := fresh(t, size+2)
				lay(t, d, 1, sectors...)
				l, had, _ := log.Open(d, 1, size, first)
				if n+1 > l.Room() {
					fell = false
					break
				}
				l, had, fell = fallen(t, d, size, first, had, many(n), step, keep)
				if fell && len(had) > 0 && len(had[len(had)-1]) == n {
					whole++
				}
				if m := draw.n(4); m < l.Room() {
					fallen(t, d, size, first, had, many(m), draw.n(stepsOf(m)), keeps(m + 2)[draw.n(2*m+6)])
				}
			}
		}
	}
	if whole < 10 {
		t.Errorf("just %d deeds were there behind a fall", whole)
	}
}

// TestI2FallsTwice: a fall at each step, and behind it one at each step of another deed.
func TestI2FallsTwice(t *testing.T) {
	const size, first = 8, 1
	// What stood there would make a deed with a change that isn't the first one's.
	sectors := slices.Concat(deedOf(1, is("a", "0")), []string{"", sector('o', 4, bytesOf(is("x", "1"))), sector('c', 5, count(2)), sector('c', 6, count(3)), sector('c', 7, count(0)), sector('c', 8, count(0))})
	for step, fell := 0, true; fell; step++ {
		for _, keep := range keeps(5) {
			for again, twice := 0, true; twice; again++ {
				for _, other := range keeps(4) {
					d := fresh(t, size+2)
					lay(t, d, 1, sectors...)
					var had [][]api.Change
					_, had, fell = fallen(t, d, size, first, [][]api.Change{{is("a", "0")}}, many(2), step, keep)
					_, _, twice = fallen(t, d, size, first, had, many(1), again, other)
				}
			}
		}
	}
}

// TestI2FallsFull: a fall at each step of the greatest deed, in a log that it fills.
func TestI2FallsFull(t *testing.T) {
	const n = api.MaxChanges
	c := many(n)
	for step, fell := 0, true; fell; step++ {
		for _, keep := range []uint64{0, ^uint64(0), 1, 1 << 62, 1 << 63, ^uint64(1), ^uint64(1 << 62), 1 << (step % 64)} {
			d := fresh(t, n+3)
			lay(t, d, 1, deedOf(1, slices.Concat(c[:n-1], c[:1])...)...)
			lay(t, d, 1, sector('x', 1, ""))
			_, _, fell = fallen(t, d, n+1, 1, nil, c, step, keep)
		}
	}
}

// TestI2Anew: what stood in sectors that are used anew, by the same numbers, is no more, however few of them a deed needs.
func TestI2Anew(t *testing.T) {
	for n := range 6 {
		for was := range 6 {
			for behind := range 4 {
				d := fresh(t, 24)
				old := slices.Concat(deedOf(1, many(was)...), deedOf(uint32(was+2), many(behind)...), deedOf(uint32(was+behind+3)), deedOf(uint32(was+behind+4)))
				lay(t, d, 0, old...)
				lay(t, d, 0, "")
				l := opened(t, d, 0, 20, 1, nil, 20)
				var want [][]api.Change
				room := 20
				for room > n {
					adds(t, l, many(n)...)
					want, room = append(want, many(n)), room-n-1
					opened(t, d, 0, 20, 1, want, room)
				}
			}
		}
	}
}

// TestI2Again: a log whose disk fell, and was restarted, goes on: what wasn't added is no more, or whole.
func TestI2Again(t *testing.T) {
	for step := range 12 {
		for _, keep := range keeps(5) {
			d := fresh(t, 12)
			l := opened(t, d, 0, 12, 1, nil, 12)
			adds(t, l, many(1)...)
			d.Arm(step)
			if l.Add(many(3)) == nil {
				continue
			}
			d.Restart(keep)
			adds(t, l, many(2)...)
			opened(t, d, 0, 12, 1, [][]api.Change{many(1), many(2)}, 7)
		}
	}
}
