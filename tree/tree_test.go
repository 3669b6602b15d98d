package tree

import (
	"math"
	"slices"
	"testing"

	"writkeep/api"
	"writkeep/writ"
)

// family: two trees of writs that are right, of the things 6 and 2.
//
//	1 - 2 - 5 - 9
//	  \ 7
//	3 - 4 - 8
var family = []api.Writ{
	{ID: 1, Thing: 6, Rights: 7},
	{ID: 2, Thing: 6, Rights: 5, Badge: 3, From: 1},
	{ID: 3, Thing: 2, Rights: 3, Badge: 9},
	{ID: 4, Thing: 2, Rights: 1, Badge: 9, From: 3},
	{ID: 5, Thing: 6, Rights: 5, Badge: 3, From: 2},
	{ID: 7, Thing: 6, Rights: 0, From: 1},
	{ID: 8, Thing: 2, Rights: 1, Badge: 9, From: 4},
	{ID: 9, Thing: 6, Rights: 4, Badge: 3, From: 5},
}

// TestC1Beneath: all removes, rising; none of 0, of a leaf, and of one that isn't there.
func TestC1Beneath(t *testing.T) {
	for id, want := range map[int][]int{
		1: {2, 5, 7, 9}, 2: {5, 9}, 3: {4, 8}, 4: {8}, 5: {9},
		7: nil, 8: nil, 9: nil, 0: nil, 6: nil, -1: nil, math.MaxInt: nil, math.MinInt: nil,
	} {
		if got := Beneath(family, id); !slices.Equal(got, want) {
			t.Errorf("Beneath(%d): %v, not %v", id, got, want)
		}
	}
	if got := Beneath(nil, 1); len(got) != 0 {
		t.Errorf("Beneath of none: %v", got)
	}
}

// TestC1Above: from the nearest to the first one, without the 0 that this one was made of.
func TestC1Above(t *testing.T) {
	for id, want := range map[int][]int{
		1: nil, 2: {1}, 3: nil, 4: {3}, 5: {2, 1}, 7: {1}, 8: {4, 3}, 9: {5, 2, 1},
		0: nil, 6: nil, -1: nil, math.MaxInt: nil, math.MinInt: nil,
	} {
		if got := Above(family, id); !slices.Equal(got, want) {
			t.Errorf("Above(%d): %v, not %v", id, got, want)
		}
	}
	if got := Above(nil, 1); len(got) != 0 {
		t.Errorf("Above of none: %v", got)
	}
}

// without: the family less the one at a place, with others' From set anew.
func without(at int, from map[int]int) []api.Writ {
	l := slices.Delete(slices.Clone(family), at, at+1)
	for i, w := range l {
		if f, is := from[w.ID]; is {
			l[i].From = f
		}
	}
	return l
}

// TestC2Without: a first one, one in between, a leaf; none for 0 and for numbers that aren't there.
func TestC2Without(t *testing.T) {
	for id, want := range map[int][]api.Writ{
		1: without(0, map[int]int{2: 0, 7: 0}),
		2: without(1, map[int]int{5: 1}),
		3: without(2, map[int]int{4: 0}),
		5: without(4, map[int]int{9: 2}),
		9: without(7, nil),
		0: family, 6: family, -1: family, math.MaxInt: family,
	} {
		if got := Without(family, id); !slices.Equal(got, want) {
			t.Errorf("Without(%d): %v, not %v", id, got, want)
		}
	}
	if got := Without(nil, 1); len(got) != 0 {
		t.Errorf("Without, of none: %v", got)
	}
	if got := Without([]api.Writ{{ID: 1, Thing: 1}}, 1); len(got) != 0 {
		t.Errorf("Without the only one: %v", got)
	}
}

// TestC3Right: lists that are right.
func TestC3Right(t *testing.T) {
	for _, l := range [][]api.Writ{
		nil, {}, family, family[:1],
		{{ID: 999, Thing: 999, Rights: 7, Badge: 99}},
		{{ID: 998, Thing: 1}, {ID: 999, Thing: 1, From: 998}},
		{{ID: 1, Thing: 1, Badge: 0}, {ID: 2, Thing: 1, Badge: 99, From: 1}},
	} {
		if err := Check(l); err != nil {
			t.Errorf("Check(%v): %v", l, err)
		}
	}
}

// TestC3Wrong: each error, and of several the first one's of the first writ that has any (Z3).
func TestC3Wrong(t *testing.T) {
	one := api.Writ{ID: 3, Thing: 2, Rights: 3, Badge: 5}
	bare := api.Writ{ID: 3, Thing: 2, Rights: 3}
	for name, c := range map[string]struct {
		l    []api.Writ
		want error
	}{
		"zero writ":                {[]api.Writ{{}}, api.ErrBound},
		"From is itself":           {[]api.Writ{{ID: 1, Thing: 1, From: 1}}, api.ErrBound},
		"rights, of one of none":   {[]api.Writ{{ID: 1, Thing: 1, Rights: 8}}, api.ErrBound},
		"rights, of one":           {[]api.Writ{one, {ID: 4, Thing: 2, Rights: -1, Badge: 5, From: 3}}, api.ErrBound},
		"badge, of one":            {[]api.Writ{bare, {ID: 4, Thing: 2, Badge: 100, From: 3}}, api.ErrBound},
		"bound ahead of shape":     {[]api.Writ{one, {ID: 2, Thing: 0}}, api.ErrBound},
		"bound ahead of none":      {[]api.Writ{one, {ID: 4, Thing: 1000, From: 2}}, api.ErrBound},
		"the same number":          {[]api.Writ{one, one}, api.ErrShape},
		"a lower number":           {[]api.Writ{one, {ID: 2, Thing: 1}}, api.ErrShape},
		"lower than the one ahead": {[]api.Writ{{ID: 1, Thing: 1}, {ID: 5, Thing: 1}, {ID: 4, Thing: 1}}, api.ErrShape},
		"shape ahead of none":      {[]api.Writ{one, {ID: 2, Thing: 2, From: 1}}, api.ErrShape},
		"shape ahead of right":     {[]api.Writ{{ID: 1, Thing: 1}, one, {ID: 2, Thing: 2, Rights: 7, From: 1}}, api.ErrShape},
		"none ahead of the first":  {[]api.Writ{{ID: 2, Thing: 1, From: 1}}, api.ErrNone},
		"none of that number":      {[]api.Writ{one, {ID: 9, Thing: 2, Badge: 5, From: 4}}, api.ErrNone},
		"none ahead of right":      {[]api.Writ{one, {ID: 9, Thing: 4, Rights: 7, From: 1}}, api.ErrNone},
		"more rights":              {[]api.Writ{one, {ID: 4, Thing: 2, Rights: 7, Badge: 5, From: 3}}, api.ErrRight},
		"another badge":            {[]api.Writ{one, {ID: 4, Thing: 2, Rights: 3, Badge: 6, From: 3}}, api.ErrRight},
		"no badge":                 {[]api.Writ{one, {ID: 4, Thing: 2, Rights: 3, From: 3}}, api.ErrRight},
		"another thing":            {[]api.Writ{bare, {ID: 4, Thing: 3, Rights: 3, From: 3}}, api.ErrRight},
		"the first writ's: right":  {[]api.Writ{one, {ID: 4, Thing: 2, From: 3}, {}}, api.ErrRight},
		"the first writ's: none":   {[]api.Writ{one, {ID: 9, Thing: 2, From: 4}, one}, api.ErrNone},
		"the first writ's: shape":  {[]api.Writ{one, one, {ID: -1}}, api.ErrShape},
		"more rights than one in between": {[]api.Writ{
			{ID: 1, Thing: 1, Rights: 7}, {ID: 2, Thing: 1, Rights: 1, From: 1}, {ID: 3, Thing: 1, Rights: 3, From: 2}}, api.ErrRight},
	} {
		if got := Check(c.l); got != c.want {
			t.Errorf("%s: Check(%v): %v, not %v", name, c.l, got, c.want)
		}
	}
}

// TestC4Things: rising, each once, whatever the order of the writs.
func TestC4Things(t *testing.T) {
	for _, c := range []struct {
		l    []api.Writ
		want []int
	}{
		{nil, nil},
		{family, []int{2, 6}},
		{family[:2], []int{6}},
		{[]api.Writ{{ID: 1, Thing: 999}, {ID: 2, Thing: 1}, {ID: 3, Thing: 40}, {ID: 4, Thing: 1}}, []int{1, 40, 999}},
	} {
		if got := Things(c.l); !slices.Equal(got, c.want) {
			t.Errorf("Things(%v): %v, not %v", c.l, got, c.want)
		}
	}
}

// die: numbers that look drawn, the same each time.
type die uint64

func (d *die) n(most int) int {
	*d = *d*6364136223846793005 + 1442695040888963407
	return int(uint64(*d>>33) % uint64(most))
}

// drawn: writs that are right, as Derive makes them.
func drawn(d *die) []api.Writ {
	var l []api.Writ
	id := 0
	for range d.n(20) {
		id += 1 + d.n(3)
		w := api.Writ{ID: id, Thing: 1 + d.n(6), Rights: d.n(8), Badge: d.n(3)}
		if len(l) > 0 && d.n(5) > 0 {
			f := l[d.n(len(l))]
			w, _ = writ.Derive(f, id, f.Rights&d.n(8), []int{0, f.Badge}[d.n(2)])
		}
		l = append(l, w)
	}
	return l
}

// TestC1Agree: Beneath and Above are two sides of one thing; what is told is the writs' own From, step by step.
func TestC1Agree(t *testing.T) {
	d := die(3)
	for range 300 {
		l := drawn(&d)
		if err := Check(l); err != nil {
			t.Fatalf("Check(%v): %v", l, err)
		}
		for _, low := range l {
			above := Above(l, low.ID)
			want := low.From
			for _, n := range append(above, 0) {
				if n != want {
					t.Fatalf("Above(%v, %d): %v", l, low.ID, above)
				}
				if n != 0 {
					want = l[writ.Find(l, n)].From
				}
			}
			for _, high := range l {
				if slices.Contains(above, high.ID) != slices.Contains(Beneath(l, high.ID), low.ID) {
					t.Fatalf("of %v: %d is above %d, or beneath, not both", l, high.ID, low.ID)
				}
			}
		}
		for _, w := range l {
			if b := Beneath(l, w.ID); !slices.IsSorted(b) || len(slices.Compact(slices.Clone(b))) != len(b) {
				t.Fatalf("Beneath(%v, %d) doesn't rise: %v", l, w.ID, b)
			}
		}
	}
}

// TestC2StaysRight: without any of them the others are right, and made of each other as they were.
func TestC2StaysRight(t *testing.T) {
	d := die(4)
	for range 300 {
		l := drawn(&d)
		for _, gone := range l {
			less := Without(l, gone.ID)
			if err := Check(less); err != nil || len(less) != len(l)-1 {
				t.Fatalf("Without(%v, %d): %v: %v", l, gone.ID, less, err)
			}
			for _, w := range less {
				want := slices.DeleteFunc(Beneath(l, w.ID), func(n int) bool { return n == gone.ID })
				if got := Beneath(less, w.ID); !slices.Equal(got, want) {
					t.Fatalf("Without(%v, %d): beneath %d are %v, not %v", l, gone.ID, w.ID, got, want)
				}
			}
		}
	}
}

// TestZ1Ends: also of writs that aren't right every call answers.
func TestZ1Ends(t *testing.T) {
	d := die(5)
	lists := [][]api.Writ{
		{{ID: 1, From: 1}}, {{ID: 1, From: 2}, {ID: 2, From: 1}}, {{ID: 2, From: 1}, {ID: 1, From: 2}}, {{}, {}},
		{{ID: math.MinInt, From: math.MaxInt}, {ID: math.MaxInt, From: math.MinInt}},
	}
	for range 200 {
		var l []api.Writ
		for range d.n(6) {
			l = append(l, api.Writ{ID: d.n(4), Thing: d.n(4) - 1, Rights: d.n(9), Badge: d.n(3), From: d.n(4)})
		}
		lists = append(lists, l)
	}
	for _, l := range lists {
		Check(l)
		Things(l)
		for _, id := range []int{math.MinInt, -1, 0, 1, 2, 3, math.MaxInt} {
			Beneath(l, id)
			Above(l, id)
			Without(l, id)
		}
	}
}

// spare: the family, with writs behind it in memory that would be seen in an answer.
func spare() (l, all []api.Writ) {
	all = append(slices.Clone(family), api.Writ{ID: 10, Thing: 77, From: 1}, api.Writ{ID: 11, Thing: 78, From: 10}, api.Writ{})
	return all[:len(family)], all
}

// TestZ2: a list that is handed in is as it was, nothing behind it is read, and an answer shares no memory with it, nor with another answer.
func TestZ2(t *testing.T) {
	l, all := spare()
	was := slices.Clone(all)
	for _, id := range []int{0, 1, 2, 6, 9, 10} {
		writs, again := Without(l, id), Without(l, id)
		if want := Without(family, id); !slices.Equal(writs, want) {
			t.Errorf("Without(%d): %v, not %v", id, writs, want)
		}
		scribble(writs, api.Writ{ID: -7})
		if !slices.Equal(again, Without(family, id)) {
			t.Errorf("Without(%d): two answers share memory", id)
		}
		for name, f := range map[string]func([]api.Writ, int) []int{"Beneath": Beneath, "Above": Above} {
			got, again := f(l, id), f(l, id)
			if want := f(family, id); !slices.Equal(got, want) {
				t.Errorf("%s(%d): %v, not %v", name, id, got, want)
			}
			scribble(got, -7)
			if !slices.Equal(again, f(family, id)) {
				t.Errorf("%s(%d): two answers share memory", name, id)
			}
		}
	}
	things := Things(l)
	if !slices.Equal(things, []int{2, 6}) {
		t.Errorf("Things: %v", things)
	}
	if err := Check(l); err != nil {
		t.Errorf("Check: %v", err)
	}
	if !slices.Equal(all, was) {
		t.Errorf("the list was written into: %v, not %v", all, was)
	}
}

// scribble over all of a list's memory, what stands behind it too.
func scribble[T any](l []T, v T) {
	l = l[:cap(l)]
	for i := range l {
		l[i] = v
	}
}
