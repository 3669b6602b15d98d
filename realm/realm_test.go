package realm_test

import (
	"math"
	"slices"
	"testing"

	"writkeep/api"
	"writkeep/realm"
)

func place(holder, slot int) api.Place { return api.Place{Holder: holder, Slot: slot} }

func held(holder, slot, id int) api.Held { return api.Held{Place: place(holder, slot), Writ: id} }

// same: have two realms the same in them?
func same(a, b api.Realm) bool {
	return slices.Equal(a.Writs, b.Writs) && slices.Equal(a.Things, b.Things) && slices.Equal(a.Held, b.Held) &&
		slices.Equal(a.Notes, b.Notes) && a.NextWrit == b.NextWrit && a.NextThing == b.NextThing
}

// story: a realm to which one thing is done behind the other; what is done must go well.
type story struct {
	t *testing.T
	r api.Realm
}

func begin(t *testing.T) *story { return &story{t, realm.New()} }

func (s *story) then(r api.Realm, err error) {
	s.t.Helper()
	if err != nil {
		s.t.Fatalf("of %v: %v", s.r, err)
	}
	s.r = r
}

func (s *story) cell(holder, slot int) {
	s.t.Helper()
	s.then(realm.Make(s.r, place(holder, slot), api.Cell))
}

func (s *story) port(holder, slot int) {
	s.t.Helper()
	s.then(realm.Make(s.r, place(holder, slot), api.Port))
}

func (s *story) give(from, to api.Place, rights, badge int) {
	s.t.Helper()
	s.then(realm.Give(s.r, from, to, rights, badge))
}

func (s *story) drop(holder, slot int) {
	s.t.Helper()
	s.then(realm.Drop(s.r, place(holder, slot)))
}

func (s *story) revoke(holder, slot int) {
	s.t.Helper()
	s.then(realm.Revoke(s.r, place(holder, slot)))
}

func (s *story) write(holder, slot int, data string) {
	s.t.Helper()
	s.then(realm.Write(s.r, place(holder, slot), data))
}

// send a note without a writ.
func (s *story) send(holder, slot int, data string) {
	s.t.Helper()
	s.then(realm.Send(s.r, place(holder, slot), data, -1, 0))
}

// sendWith: a note with a writ of another slot.
func (s *story) sendWith(holder, slot int, data string, with, rights int) {
	s.t.Helper()
	s.then(realm.Send(s.r, place(holder, slot), data, with, rights))
}

// take a note, which must be that one, with its writ in that slot.
func (s *story) take(holder, slot int, want api.Note, at int) {
	s.t.Helper()
	r, n, got, err := realm.Take(s.r, place(holder, slot))
	if n != want || got != at {
		s.t.Errorf("Take(%d, %d): %v slot %d, not %v slot %d", holder, slot, n, got, want, at)
	}
	s.then(r, err)
}

// is: the realm must be that one.
func (s *story) is(want api.Realm) {
	s.t.Helper()
	if !same(s.r, want) {
		s.t.Errorf("the realm is\n%v, not\n%v", s.r, want)
	}
}

// TestE1New: nothing is there, and the next numbers are 1.
func TestE1New(t *testing.T) {
	begin(t).is(api.Realm{NextWrit: 1, NextThing: 1})
}

// TestE1Copy: the same, of a new realm and of one where there is some of everything.
func TestE1Copy(t *testing.T) {
	for _, r := range []api.Realm{realm.New(), busy(t)} {
		if got := realm.Copy(r); !same(got, r) {
			t.Errorf("Copy: %v, not %v", got, r)
		}
	}
}

// TestE1Get: the writ that is held at a place, and no other holder's or slot's.
func TestE1Get(t *testing.T) {
	s := begin(t)
	s.cell(1, 0)
	s.port(2, 5)
	s.give(place(2, 5), place(1, 3), 5, 9)
	for p, want := range map[api.Place]api.Writ{
		place(1, 0): {ID: 1, Thing: 1, Rights: 7},
		place(2, 5): {ID: 2, Thing: 2, Rights: 7},
		place(1, 3): {ID: 3, Thing: 2, Rights: 5, Badge: 9, From: 2},
	} {
		if got, err := realm.Get(s.r, p); got != want || err != nil {
			t.Errorf("Get(%v): %v %v, not %v", p, got, err, want)
		}
	}
	for _, p := range []api.Place{place(1, 1), place(1, 5), place(2, 0), place(2, 3), place(4, 0), place(4, 5)} {
		if got, err := realm.Get(s.r, p); got != (api.Writ{}) || err != error(api.ErrNone) {
			t.Errorf("Get(%v): %v %v, not ErrNone", p, got, err)
		}
	}
	for _, p := range wrongPlaces() {
		if got, err := realm.Get(s.r, p); got != (api.Writ{}) || err != error(api.ErrBound) {
			t.Errorf("Get(%v): %v %v, not ErrBound", p, got, err)
		}
	}
}

// wrongPlaces: those next to the ones that may be, and far ones.
func wrongPlaces() []api.Place {
	return []api.Place{
		{}, place(0, 0), place(5, 0), place(-1, 0), place(1, -1), place(1, 6), place(4, 6), place(5, 6),
		place(math.MinInt, 0), place(math.MaxInt, 0), place(1, math.MinInt), place(1, math.MaxInt),
	}
}

// TestE2Make: things and writs get the next numbers; what is held rises by its places, whatever came first.
func TestE2Make(t *testing.T) {
	s := begin(t)
	s.port(2, 3)
	s.is(api.Realm{
		Writs: []api.Writ{{ID: 1, Thing: 1, Rights: 7}}, Things: []api.Thing{{ID: 1, Kind: 2}},
		Held: []api.Held{held(2, 3, 1)}, NextWrit: 2, NextThing: 2,
	})
	s.cell(1, 5)
	s.give(place(1, 5), place(4, 5), 1, 0)
	s.cell(1, 0)
	s.is(api.Realm{
		Writs: []api.Writ{
			{ID: 1, Thing: 1, Rights: 7}, {ID: 2, Thing: 2, Rights: 7}, {ID: 3, Thing: 2, Rights: 1, From: 2}, {ID: 4, Thing: 3, Rights: 7},
		},
		Things:   []api.Thing{{ID: 1, Kind: 2}, {ID: 2, Kind: 1}, {ID: 3, Kind: 1}},
		Held:     []api.Held{held(1, 0, 4), held(1, 5, 2), held(2, 3, 1), held(4, 5, 3)},
		NextWrit: 5, NextThing: 4,
	})
}

// TestE2Full: ten things, and no more, until one is gone; its number doesn't come back.
func TestE2Full(t *testing.T) {
	s := begin(t)
	for i := range 10 {
		s.cell(1+i/6, i%6)
	}
	if got, err := realm.Make(s.r, place(4, 0), api.Cell); !same(got, api.Realm{}) || err != error(api.ErrFull) {
		t.Errorf("Make, of ten things: %v %v", got, err)
	}
	s.drop(1, 4)
	s.port(4, 0)
	if w, err := realm.Get(s.r, place(4, 0)); w != (api.Writ{ID: 11, Thing: 11, Rights: 7}) || err != nil {
		t.Errorf("Make, of nine things: %v %v", w, err)
	}
}

// spent: a realm with one port, at (1, 0), whose next writ has that number, as the others were given and dropped.
func spent(t *testing.T, next int) *story {
	s := begin(t)
	s.port(1, 0)
	for s.r.NextWrit < next {
		s.give(place(1, 0), place(1, 1), 7, 0)
		s.drop(1, 1)
	}
	return s
}

// TestE2RunOut: the number 999 is given out, and none behind it, of things and of writs.
func TestE2RunOut(t *testing.T) {
	s := begin(t)
	for range 998 {
		s.cell(1, 0)
		s.drop(1, 0)
	}
	s.cell(1, 0)
	s.is(api.Realm{
		Writs: []api.Writ{{ID: 999, Thing: 999, Rights: 7}}, Things: []api.Thing{{ID: 999, Kind: 1}},
		Held: []api.Held{held(1, 0, 999)}, NextWrit: 1000, NextThing: 1000,
	})
	s.drop(1, 0)
	s.is(api.Realm{NextWrit: 1000, NextThing: 1000})
	writs := spent(t, 1000).r
	if writs.NextThing != 2 {
		t.Fatalf("the next thing is %d", writs.NextThing)
	}
	things := realm.New()
	things.NextThing = 1000
	for name, r := range map[string]api.Realm{"both": s.r, "writs": writs, "things": things} {
		if got, err := realm.Make(r, place(2, 0), api.Port); !same(got, api.Realm{}) || err != error(api.ErrFull) {
			t.Errorf("%s have run out: Make: %v %v", name, got, err)
		}
	}
}

// TestE3Give: what is given was made of the giver's writ, at the giver's or another one's place; the giver keeps its own.
func TestE3Give(t *testing.T) {
	s := begin(t)
	s.cell(2, 1)
	s.give(place(2, 1), place(3, 4), 5, 7)
	s.give(place(3, 4), place(1, 0), 1, 0)
	s.give(place(1, 0), place(1, 5), 1, 7)
	s.give(place(2, 1), place(2, 0), 0, 0)
	s.give(place(2, 1), place(4, 5), 7, 99)
	s.is(api.Realm{
		Writs: []api.Writ{
			{ID: 1, Thing: 1, Rights: 7},
			{ID: 2, Thing: 1, Rights: 5, Badge: 7, From: 1},
			{ID: 3, Thing: 1, Rights: 1, Badge: 7, From: 2},
			{ID: 4, Thing: 1, Rights: 1, Badge: 7, From: 3},
			{ID: 5, Thing: 1, Rights: 0, From: 1},
			{ID: 6, Thing: 1, Rights: 7, Badge: 99, From: 1},
		},
		Things:   []api.Thing{{ID: 1, Kind: 1}},
		Held:     []api.Held{held(1, 0, 3), held(1, 5, 4), held(2, 0, 5), held(2, 1, 1), held(3, 4, 2), held(4, 5, 6)},
		NextWrit: 7, NextThing: 2,
	})
}

// TestE3Grant goes over all rights: to another holder just who may grant gives, to its own slots anybody, and no more than it has.
func TestE3Grant(t *testing.T) {
	for has := range 8 {
		for ask := range 8 {
			s := begin(t)
			s.cell(1, 0)
			s.give(place(1, 0), place(2, 0), has, 0)
			for to, free := range map[api.Place]bool{place(2, 1): true, place(3, 0): has&4 != 0, place(1, 1): has&4 != 0} {
				var want error
				if !free || has&ask != ask {
					want = api.ErrRight
				}
				got, err := realm.Give(s.r, place(2, 0), to, ask, 0)
				if err != want {
					t.Errorf("Give of rights %d, with rights %d, to %v: %v, not %v", has, ask, to, err, want)
				}
				if err == nil && got.Writs[2] != (api.Writ{ID: 3, Thing: 1, Rights: ask, From: 2}) {
					t.Errorf("Give of rights %d, with rights %d, to %v: %v", has, ask, to, got.Writs[2])
				}
			}
		}
	}
}

// TestE3RunOut: a writ of the number 999 is given, and none behind it.
func TestE3RunOut(t *testing.T) {
	s := spent(t, 999)
	s.give(place(1, 0), place(3, 2), 2, 5)
	if w, err := realm.Get(s.r, place(3, 2)); w != (api.Writ{ID: 999, Thing: 1, Rights: 2, Badge: 5, From: 1}) || err != nil {
		t.Errorf("Give, of the last number: %v %v", w, err)
	}
	if got, err := realm.Give(s.r, place(1, 0), place(1, 1), 1, 0); !same(got, api.Realm{}) || err != error(api.ErrFull) {
		t.Errorf("Give, of no number: %v %v", got, err)
	}
}

// TestE3Move: the same writ in another slot; nothing else becomes another one.
func TestE3Move(t *testing.T) {
	s := begin(t)
	s.r = busy(t)
	want := realm.Copy(s.r)
	want.Held = []api.Held{held(1, 0, 1), held(1, 2, 3), held(1, 5, 2), held(2, 0, 4), held(2, 1, 5), held(3, 0, 6)}
	s.then(realm.Move(s.r, place(1, 1), 5))
	s.is(want)
	want.Held = []api.Held{held(1, 0, 1), held(1, 1, 3), held(1, 5, 2), held(2, 0, 4), held(2, 1, 5), held(3, 0, 6)}
	s.then(realm.Move(s.r, place(1, 2), 1))
	s.is(want)
}

// busy: a realm with some of everything: two ports, a cell, writs of three holders, notes with writs and without, at both ports.
func busy(t *testing.T) api.Realm {
	s := begin(t)
	s.port(1, 0)
	s.cell(1, 1)
	s.port(1, 2)
	s.write(1, 1, "hay")
	s.give(place(1, 0), place(2, 0), 6, 7)
	s.give(place(1, 1), place(2, 1), 5, 0)
	s.give(place(2, 1), place(3, 0), 1, 3)
	s.send(2, 0, "a")
	s.sendWith(1, 2, "b", 1, 3)
	s.sendWith(2, 0, "c", 1, 1)
	s.is(api.Realm{
		Writs: []api.Writ{
			{ID: 1, Thing: 1, Rights: 7},
			{ID: 2, Thing: 2, Rights: 7},
			{ID: 3, Thing: 3, Rights: 7},
			{ID: 4, Thing: 1, Rights: 6, Badge: 7, From: 1},
			{ID: 5, Thing: 2, Rights: 5, From: 2},
			{ID: 6, Thing: 2, Rights: 1, Badge: 3, From: 5},
			{ID: 7, Thing: 2, Rights: 3, From: 2},
			{ID: 8, Thing: 2, Rights: 1, From: 5},
		},
		Things: []api.Thing{{ID: 1, Kind: 2}, {ID: 2, Kind: 1, Data: "hay"}, {ID: 3, Kind: 2}},
		Held:   []api.Held{held(1, 0, 1), held(1, 1, 2), held(1, 2, 3), held(2, 0, 4), held(2, 1, 5), held(3, 0, 6)},
		Notes: []api.Note{
			{Port: 1, Data: "a", Badge: 7}, {Port: 3, Data: "b", Writ: 7}, {Port: 1, Data: "c", Badge: 7, Writ: 8},
		},
		NextWrit: 9, NextThing: 4,
	})
	return s.r
}
