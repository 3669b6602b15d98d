package writ

import (
	"math"
	"slices"
	"testing"

	"writkeep/api"
)

// TestB1May: writs at the edges of what may be.
func TestB1May(t *testing.T) {
	for _, w := range []api.Writ{
		{ID: 1, Thing: 1},
		{ID: 1, Thing: 999, Rights: 7, Badge: 99},
		{ID: 999, Thing: 1, Rights: 0, Badge: 0, From: 998},
		{ID: 999, Thing: 999, Rights: 7, Badge: 99, From: 1},
		{ID: 2, Thing: 5, Rights: 4, Badge: 1, From: 1},
		{ID: 2, Thing: 5, Rights: 3, Badge: 1, From: 0},
	} {
		if err := Check(w); err != nil {
			t.Errorf("Check(%v): %v", w, err)
		}
	}
}

// TestB1Wrong: one field at a time is beyond its edge.
func TestB1Wrong(t *testing.T) {
	fine := api.Writ{ID: 5, Thing: 3, Rights: 5, Badge: 7, From: 4}
	if err := Check(fine); err != nil {
		t.Fatalf("Check(%v): %v", fine, err)
	}
	fields := map[string]struct {
		set   func(w *api.Writ, n int)
		wrong []int
	}{
		"ID":     {func(w *api.Writ, n int) { w.ID = n }, []int{0, -1, 4, 1000, math.MinInt, math.MaxInt}},
		"Thing":  {func(w *api.Writ, n int) { w.Thing = n }, []int{0, -1, 1000, math.MinInt, math.MaxInt}},
		"Rights": {func(w *api.Writ, n int) { w.Rights = n }, []int{-1, 8, math.MinInt, math.MaxInt}},
		"Badge":  {func(w *api.Writ, n int) { w.Badge = n }, []int{-1, 100, math.MinInt, math.MaxInt}},
		"From":   {func(w *api.Writ, n int) { w.From = n }, []int{-1, 5, 6, math.MinInt, math.MaxInt}},
	}
	for name, f := range fields {
		for _, n := range f.wrong {
			w := fine
			f.set(&w, n)
			if err := Check(w); err != error(api.ErrBound) {
				t.Errorf("%s is %d: Check(%v): %v, not ErrBound", name, n, w, err)
			}
		}
	}
	for _, w := range []api.Writ{{}, {ID: math.MinInt, Thing: 1, From: math.MaxInt}, {ID: math.MinInt, Thing: 1}} {
		if err := Check(w); err != error(api.ErrBound) {
			t.Errorf("Check(%v): %v, not ErrBound", w, err)
		}
	}
}

// TestB2Derive: what is made, at ordinary inputs and at edges.
func TestB2Derive(t *testing.T) {
	plain := api.Writ{ID: 3, Thing: 8, Rights: 7, Badge: 0, From: 2}
	badged := api.Writ{ID: 4, Thing: 9, Rights: 5, Badge: 6, From: 3}
	for _, c := range []struct {
		w                 api.Writ
		id, rights, badge int
		want              api.Writ
	}{
		{plain, 9, 7, 0, api.Writ{ID: 9, Thing: 8, Rights: 7, Badge: 0, From: 3}},
		{plain, 9, 0, 99, api.Writ{ID: 9, Thing: 8, Rights: 0, Badge: 99, From: 3}},
		{plain, 9, 2, 1, api.Writ{ID: 9, Thing: 8, Rights: 2, Badge: 1, From: 3}},
		{badged, 999, 5, 0, api.Writ{ID: 999, Thing: 9, Rights: 5, Badge: 6, From: 4}},
		{badged, 10, 1, 6, api.Writ{ID: 10, Thing: 9, Rights: 1, Badge: 6, From: 4}},
		{badged, 10, 0, 6, api.Writ{ID: 10, Thing: 9, Rights: 0, Badge: 6, From: 4}},
	} {
		got, err := Derive(c.w, c.id, c.rights, c.badge)
		if got != c.want || err != nil {
			t.Errorf("Derive(%v, %d, %d, %d): %v %v, not %v", c.w, c.id, c.rights, c.badge, got, err, c.want)
		}
	}
}

// TestB2Wrong: the errors, the one named first if there are several (Z3), and no writ beside them (Z1).
func TestB2Wrong(t *testing.T) {
	plain := api.Writ{ID: 3, Thing: 8, Rights: 3}
	badged := api.Writ{ID: 4, Thing: 9, Rights: 5, Badge: 6}
	for _, c := range []struct {
		w             api.Writ
		rights, badge int
		want          error
	}{
		{plain, -1, 0, api.ErrBound},
		{plain, 8, 0, api.ErrBound},
		{plain, math.MinInt, 0, api.ErrBound},
		{plain, math.MaxInt, 0, api.ErrBound},
		{plain, 1, -1, api.ErrBound},
		{plain, 1, 100, api.ErrBound},
		{plain, 1, math.MinInt, api.ErrBound},
		{plain, 4, 100, api.ErrBound},
		{badged, 1, 100, api.ErrBound},
		{badged, 8, 7, api.ErrBound},
		{plain, 4, 0, api.ErrRight},
		{plain, 7, 0, api.ErrRight},
		{plain, 5, 1, api.ErrRight},
		{badged, 2, 6, api.ErrRight},
		{badged, 5, 7, api.ErrRight},
		{badged, 0, 99, api.ErrRight},
		{badged, 5, 1, api.ErrRight},
	} {
		got, err := Derive(c.w, 9, c.rights, c.badge)
		if got != (api.Writ{}) || err != c.want {
			t.Errorf("Derive(%v, 9, %d, %d): %v %v, not %v", c.w, c.rights, c.badge, got, err, c.want)
		}
	}
}

// TestB2NoMore goes over all rights and some badges: what is made may be, and has no right, thing or badge that the other hasn't.
func TestB2NoMore(t *testing.T) {
	for rights := range 8 {
		for _, badge := range []int{0, 1, 2, 99} {
			w := api.Writ{ID: 7, Thing: 2, Rights: rights, Badge: badge}
			for need := range 8 {
				for _, ask := range []int{0, 1, 2, 99} {
					got, err := Derive(w, 8, need, ask)
					may := rights|need == rights && (badge == 0 || ask == 0 || ask == badge)
					if may != (err == nil) {
						t.Errorf("Derive(%v, 8, %d, %d): %v", w, need, ask, err)
					}
					if may && (Check(got) != nil || got.Thing != 2 || got.Rights != need || got.Badge != max(badge, ask)) {
						t.Errorf("Derive(%v, 8, %d, %d): %v", w, need, ask, got)
					}
				}
			}
		}
	}
}

// TestB3Find: the first one's place, or -1; nothing behind the list is seen, nothing in it is changed (Z2).
func TestB3Find(t *testing.T) {
	all := []api.Writ{{ID: 4, Thing: 9}, {ID: 2, Thing: 1}, {ID: 4, Thing: 3}, {ID: -5}, {}, {ID: 11}}
	was := slices.Clone(all)
	for id, want := range map[int]int{4: 0, 2: 1, -5: 3, 0: 4, 11: -1, 9: -1, 1: -1, math.MaxInt: -1, math.MinInt: -1} {
		if got := Find(all[:5], id); got != want {
			t.Errorf("Find(%d): %d, not %d", id, got, want)
		}
	}
	for _, l := range [][]api.Writ{nil, {}, all[:0]} {
		for _, id := range []int{0, 4} {
			if got := Find(l, id); got != -1 {
				t.Errorf("Find of none, %d: %d", id, got)
			}
		}
	}
	if !slices.Equal(all, was) {
		t.Errorf("the list was written into: %v", all)
	}
}
