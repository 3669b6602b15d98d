package store_test

import (
	"slices"
	"testing"

	"writkeep/api"
	"writkeep/disk"
	"writkeep/row"
	"writkeep/store"
)

// keeps: of the writes that weren't flushed none, all, any single one, and all but one. (They aren't more than the steps up to the fall.)
func keeps(steps int) []uint64 {
	l := []uint64{0, ^uint64(0)}
	for i := range min(steps, 64) {
		l = append(l, 1<<i, ^uint64(1<<i))
	}
	return l
}

// fallen: something is done to a store that is opened on a twin of a disk, with a fall at a step, behind which some of what was written is kept. It tells the twin, and whether it fell.
func fallen(t *testing.T, on *disk.Disk, do func(*store.Store) error, step int, keep uint64) (*disk.Disk, bool) {
	t.Helper()
	d := twin(t, on)
	s, err := store.Open(d)
	does(t, err)
	d.Arm(step)
	err = do(s)
	fell := d.Down()
	if fell != (err == error(api.ErrDown)) || !fell && err != nil {
		t.Fatalf("step %d: %v, and it is down: %v", step, err, fell)
	}
	d.Restart(keep)
	return d, fell
}

// rowsOn a disk: its store must be there.
func rowsOn(t *testing.T, d *disk.Disk) []api.Change {
	t.Helper()
	s, err := store.Open(d)
	if err != nil {
		t.Fatalf("Open, behind a fall: %v", err)
	}
	return s.Rows()
}

// falls: whatever step it falls at, and whatever is kept, the store has what it had, or what it would have; and what is committed then is there.
func falls(t *testing.T, name string, on *disk.Disk, do func(*store.Store) error, want []api.Change) {
	t.Helper()
	was := rowsOn(t, on)
	more := []api.Change{is("more", "1"), gone("r0000000")}
	for step, fell := 0, true; fell; step++ {
		if step > 500 {
			t.Fatalf("%s: it falls always", name)
		}
		for _, keep := range keeps(step) {
			var d *disk.Disk
			d, fell = fallen(t, on, do, step, keep)
			got := rowsOn(t, d)
			if !slices.Equal(got, want) && !(fell && slices.Equal(got, was)) {
				t.Fatalf("%s: step %d, keep %x, fell %v: %v, neither %v nor %v", name, step, keep, fell, got, was, want)
			}
			if keep != 0 && keep != 1 {
				continue
			}
			s, err := store.Open(d)
			does(t, err)
			does(t, s.Commit(more))
			d.Restart(0)
			if then := rowsOn(t, d); !slices.Equal(then, row.Apply(got, more)) {
				t.Fatalf("%s: step %d, keep %x: then %v, behind %v", name, step, keep, then, got)
			}
		}
	}
}

func commit(l ...api.Change) func(*store.Store) error {
	return func(s *store.Store) error { return s.Commit(l) }
}

func checkpoint(s *store.Store) error { return s.Checkpoint() }

// used: a store with rows that were laid, and others in its log, which has so much room.
func used(t *testing.T, rows, room int) *disk.Disk {
	t.Helper()
	d := fresh(t, least)
	s := formatted(t, d)
	for range 3 {
		does(t, s.Commit(great(0, rows)))
		does(t, s.Checkpoint())
		does(t, s.Commit([]api.Change{is("r0000001", "log"), gone("r0000002"), is("new", "")}))
	}
	for s.Room() > room {
		does(t, s.Commit([]api.Change{is("last", long(s.Room()%25))})) // two sectors each
		if s.Room() == room+1 {
			does(t, s.Commit(nil))
		}
	}
	return d
}

// TestJ4Commit: a fall at each step of a deed, with room for it, and with none.
func TestJ4Commit(t *testing.T) {
	for _, room := range []int{40, 5, 4, 0} {
		for _, l := range [][]api.Change{nil, {is("new", "1")}, {is("r0000001", "x"), gone("r0000003"), is("z", "1"), gone("new")}} {
			d := used(t, 7, room)
			falls(t, "Commit", d, commit(l...), row.Apply(rowsOn(t, d), l))
		}
	}
}

// TestJ4Checkpoint: a fall at each step of a checkpoint, of few rows, and of as many as may be.
func TestJ4Checkpoint(t *testing.T) {
	for _, rows := range []int{3, 57} {
		d := used(t, rows, 8)
		falls(t, "Checkpoint", d, checkpoint, rowsOn(t, d))
	}
	d := fresh(t, least)
	formatted(t, d)
	falls(t, "Checkpoint of none", d, checkpoint, nil)
}

// TestJ4Great: a fall at each step of a deed that is as great as may be, ahead of which a checkpoint is made.
func TestJ4Great(t *testing.T) {
	d := used(t, 57, 10)
	l := append(allGone(great(3, 30)), great(100, 32)...)
	falls(t, "Commit of many", d, commit(l...), row.Apply(rowsOn(t, d), l))
}

// TestJ4Twice: a fall at each step, and behind it one at each step of what is done then, and so on.
func TestJ4Twice(t *testing.T) {
	one, two := []api.Change{is("one", "1"), gone("r0000001")}, []api.Change{gone("one"), is("two", "2")}
	draw := die(103)
	some := func() uint64 {
		return []uint64{0, ^uint64(0), 1 << draw.n(12), ^uint64(1 << draw.n(12)), uint64(draw.n(1 << 30))}[draw.n(5)]
	}
	for _, room := range []int{20, 3, 2, 0} {
		on := used(t, 5, room)
		was := rowsOn(t, on)
		for step, fell := 0, true; fell; step++ {
			for again, twice := 0, true; twice; again++ {
				for range 6 {
					var d *disk.Disk
					d, fell = fallen(t, on, commit(one...), step, some())
					first := rowsOn(t, d)
					if !slices.Equal(first, row.Apply(was, one)) && !slices.Equal(first, was) {
						t.Fatalf("a fall at %d: %v", step, first)
					}
					do, want := commit(two...), row.Apply(first, two)
					if again%2 == 0 {
						do, want = checkpoint, first
					}
					d, twice = fallen(t, d, do, again/2, some())
					second := rowsOn(t, d)
					if !slices.Equal(second, want) && !(twice && slices.Equal(second, first)) {
						t.Fatalf("falls at %d and %d: %v, neither %v nor %v", step, again, second, first, want)
					}
					d, _ = fallen(t, d, checkpoint, draw.n(7), some())
					if third := rowsOn(t, d); !slices.Equal(third, second) {
						t.Fatalf("falls at %d and %d, and then: %v, not %v", step, again, third, second)
					}
				}
			}
		}
	}
}

// TestJ4Format: a fall at each step of formatting anew leaves the store that was there, or an empty one; where none was, none, or an empty one.
func TestJ4Format(t *testing.T) {
	for _, on := range []*disk.Disk{used(t, 7, 30), used(t, 57, 0), fresh(t, least)} {
		s, err := store.Open(on)
		if err != nil {
			s = nil
		}
		for step, fell := 0, true; fell; step++ {
			for _, keep := range keeps(step) {
				d := twin(t, on)
				d.Arm(step)
				err := store.Format(d)
				if fell = d.Down(); fell != (err == error(api.ErrDown)) || !fell && err != nil {
					t.Fatalf("Format: %v, and it is down: %v", err, fell)
				}
				d.Restart(keep)
				got, err := store.Open(d)
				switch {
				case err == nil && len(got.Rows()) == 0 && got.Room() == least-logAt:
				case fell && s == nil && err == error(api.ErrText):
				case fell && s != nil && err == nil && slices.Equal(got.Rows(), s.Rows()) && got.Room() == s.Room():
				default:
					t.Fatalf("Format, step %d, keep %x: %v", step, keep, err)
				}
			}
		}
	}
}
