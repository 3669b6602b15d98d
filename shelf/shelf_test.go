package shelf

import (
	"math"
	"slices"
	"testing"

	"writkeep/api"
)

func place(holder, slot int) api.Place { return api.Place{Holder: holder, Slot: slot} }

func held(holder, slot, id int) api.Held { return api.Held{Place: place(holder, slot), Writ: id} }

// some places; the writ 9 is at two of them.
var some = []api.Held{
	held(1, 0, 5), held(1, 1, 9), held(1, 3, 2),
	held(2, 5, 9),
	held(3, 0, 11), held(3, 1, 12), held(3, 2, 13), held(3, 3, 14), held(3, 4, 15), held(3, 5, 16),
}

// TestD1Check: all places that may be, and those next to them.
func TestD1Check(t *testing.T) {
	may := 0
	for holder := -2; holder <= 8; holder++ {
		for slot := -2; slot <= 8; slot++ {
			var want error
			if holder < 1 || holder > 4 || slot < 0 || slot > 5 {
				want = api.ErrBound
			} else {
				may++
			}
			if got := Check(place(holder, slot)); got != want {
				t.Errorf("Check(%d, %d): %v, not %v", holder, slot, got, want)
			}
		}
	}
	if may != 24 {
		t.Errorf("%d places may be", may)
	}
	for _, n := range []int{math.MinInt, math.MaxInt} {
		for _, p := range []api.Place{place(n, 0), place(1, n), place(n, n)} {
			if got := Check(p); got != error(api.ErrBound) {
				t.Errorf("Check(%v): %v, not ErrBound", p, got)
			}
		}
	}
}

// TestD1At: what is there; 0 where nothing is, and where nothing may be.
func TestD1At(t *testing.T) {
	for p, want := range map[api.Place]int{
		place(1, 0): 5, place(1, 1): 9, place(1, 2): 0, place(1, 3): 2, place(2, 5): 9, place(3, 5): 16,
		place(2, 0): 0, place(4, 0): 0, place(0, 0): 0, place(1, -1): 0, place(5, 1): 0, place(math.MaxInt, math.MinInt): 0,
	} {
		if got := At(some, p); got != want {
			t.Errorf("At(%v): %d, not %d", p, got, want)
		}
	}
	if got := At(nil, place(1, 0)); got != 0 {
		t.Errorf("At, of none: %d", got)
	}
}

// TestD1Where: the first place; beside false no place is told (Z1).
func TestD1Where(t *testing.T) {
	for id, want := range map[int]api.Place{5: place(1, 0), 9: place(1, 1), 2: place(1, 3), 16: place(3, 5)} {
		if got, is := Where(some, id); got != want || !is {
			t.Errorf("Where(%d): %v %v, not %v", id, got, is, want)
		}
	}
	for _, id := range []int{0, 1, -5, 17, math.MaxInt, math.MinInt} {
		if got, is := Where(some, id); got != (api.Place{}) || is {
			t.Errorf("Where(%d): %v %v", id, got, is)
		}
	}
	if got, is := Where(nil, 5); got != (api.Place{}) || is {
		t.Errorf("Where, of none: %v %v", got, is)
	}
}

// TestD2Put: ahead of all, in between, behind all, instead of one, and nothing instead of one, or of nothing.
func TestD2Put(t *testing.T) {
	l := []api.Held{held(1, 2, 5), held(2, 0, 6), held(2, 4, 7)}
	for _, c := range []struct {
		p    api.Place
		id   int
		want []api.Held
	}{
		{place(1, 0), 8, []api.Held{held(1, 0, 8), held(1, 2, 5), held(2, 0, 6), held(2, 4, 7)}},
		{place(1, 5), 8, []api.Held{held(1, 2, 5), held(1, 5, 8), held(2, 0, 6), held(2, 4, 7)}},
		{place(2, 3), 5, []api.Held{held(1, 2, 5), held(2, 0, 6), held(2, 3, 5), held(2, 4, 7)}},
		{place(4, 0), 999, []api.Held{held(1, 2, 5), held(2, 0, 6), held(2, 4, 7), held(4, 0, 999)}},
		{place(2, 0), 8, []api.Held{held(1, 2, 5), held(2, 0, 8), held(2, 4, 7)}},
		{place(2, 0), 6, l},
		{place(2, 0), 0, []api.Held{held(1, 2, 5), held(2, 4, 7)}},
		{place(1, 2), 0, []api.Held{held(2, 0, 6), held(2, 4, 7)}},
		{place(2, 4), 0, []api.Held{held(1, 2, 5), held(2, 0, 6)}},
		{place(3, 3), 0, l},
		{place(1, 0), 0, l},
	} {
		if got := Put(l, c.p, c.id); !slices.Equal(got, c.want) {
			t.Errorf("Put(%v, %d): %v, not %v", c.p, c.id, got, c.want)
		}
	}
	if got := Put(nil, place(4, 5), 3); !slices.Equal(got, []api.Held{held(4, 5, 3)}) {
		t.Errorf("Put, to none: %v", got)
	}
	for _, l := range [][]api.Held{nil, {held(4, 5, 3)}} {
		if got := Put(l, place(4, 5), 0); len(got) != 0 {
			t.Errorf("Put nothing, to %v: %v", l, got)
		}
	}
}

// TestD2Free: the first slot where nothing is; -1 where all are taken; 0 of who holds nothing.
func TestD2Free(t *testing.T) {
	for holder, want := range map[int]int{1: 2, 2: 0, 3: -1, 4: 0} {
		if got := Free(some, holder); got != want {
			t.Errorf("Free(%d): %d, not %d", holder, got, want)
		}
	}
	for slot := range 6 {
		if got := Free(Put(some, place(3, slot), 0), 3); got != slot {
			t.Errorf("Free, just slot %d: %d", slot, got)
		}
	}
	if got := Free(nil, 1); got != 0 {
		t.Errorf("Free, of none: %d", got)
	}
}

// die: numbers that look drawn, the same each time.
type die uint64

func (d *die) n(most int) int {
	*d = *d*6364136223846793005 + 1442695040888963407
	return int(uint64(*d>>33) % uint64(most))
}

// TestD2Many holds many Puts, one behind the other, against a table of all places.
func TestD2Many(t *testing.T) {
	d := die(7)
	for range 50 {
		var table [5][6]int
		var l []api.Held
		for range 60 {
			p, id := place(1+d.n(4), d.n(6)), d.n(12)
			l = Put(l, p, id)
			table[p.Holder][p.Slot] = id
			if want := listed(table); !slices.Equal(l, want) {
				t.Fatalf("Put(%v, %d): %v, not %v", p, id, l, want)
			}
			if got := At(l, p); got != id {
				t.Fatalf("At(%v): %d, not %d", p, got, id)
			}
			if got, want := Free(l, p.Holder), slices.Index(table[p.Holder][:], 0); got != want {
				t.Fatalf("Free(%d), of %v: %d, not %d", p.Holder, l, got, want)
			}
		}
	}
}

func listed(table [5][6]int) []api.Held {
	var l []api.Held
	for holder, slots := range table {
		for slot, id := range slots {
			if id != 0 {
				l = append(l, held(holder, slot, id))
			}
		}
	}
	return l
}

// TestZ1Ends: also of places that may not be, and lists that don't rise, every call answers.
func TestZ1Ends(t *testing.T) {
	lists := [][]api.Held{nil, {{}}, {held(9, 9, 9), held(-1, -1, -1), held(1, 0, 0), held(1, 0, 3)}}
	odd := []int{math.MinInt, -1, 0, 1, 9, math.MaxInt}
	for _, l := range lists {
		for _, a := range odd {
			Where(l, a)
			Free(l, a)
			for _, b := range odd {
				At(l, place(a, b))
				Put(l, place(a, b), a)
			}
		}
	}
}

// TestZ2: a list that is handed in is as it was, nothing behind it is read, and an answer shares no memory with it, nor with another answer.
func TestZ2(t *testing.T) {
	all := append(slices.Clone(some), held(4, 0, 21), held(4, 1, 22), api.Held{})
	l := all[:len(some)]
	was := slices.Clone(all)
	if got := At(l, place(4, 0)); got != 0 {
		t.Errorf("At sees what stands behind: %d", got)
	}
	if got, is := Where(l, 22); got != (api.Place{}) || is {
		t.Errorf("Where sees what stands behind: %v", got)
	}
	if got := Free(l, 4); got != 0 {
		t.Errorf("Free sees what stands behind: %d", got)
	}
	for _, p := range []api.Place{place(1, 0), place(1, 2), place(2, 5), place(3, 5), place(4, 5)} {
		for _, id := range []int{0, 7} {
			got, again := Put(l, p, id), Put(l, p, id)
			want := slices.Clone(got)
			if behind := At(got, place(4, 1)); behind != 0 {
				t.Errorf("Put(%v, %d) sees what stands behind: %v", p, id, got)
			}
			scribble(got)
			if !slices.Equal(again, want) {
				t.Errorf("Put(%v, %d): two answers share memory", p, id)
			}
			if !slices.Equal(all, was) {
				t.Fatalf("Put(%v, %d): the list was written into, or shared: %v", p, id, all)
			}
		}
	}
}

// scribble over all of a list's memory, what stands behind it too.
func scribble(l []api.Held) {
	l = l[:cap(l)]
	for i := range l {
		l[i] = held(7, 7, 7)
	}
}
