package realm_test

import (
	"testing"

	"writkeep/api"
	"writkeep/realm"
)

// TestE5DropBetween: what was made of a writ that is dropped was made of what that was made of, also in a note.
func TestE5DropBetween(t *testing.T) {
	s := begin(t)
	s.r = busy(t)
	s.drop(2, 1)
	s.is(api.Realm{
		Writs: []api.Writ{
			{ID: 1, Thing: 1, Rights: 7},
			{ID: 2, Thing: 2, Rights: 7},
			{ID: 3, Thing: 3, Rights: 7},
			{ID: 4, Thing: 1, Rights: 6, Badge: 7, From: 1},
			{ID: 6, Thing: 2, Rights: 1, Badge: 3, From: 2},
			{ID: 7, Thing: 2, Rights: 3, From: 2},
			{ID: 8, Thing: 2, Rights: 1, From: 2},
		},
		Things: []api.Thing{{ID: 1, Kind: 2}, {ID: 2, Kind: 1, Data: "hay"}, {ID: 3, Kind: 2}},
		Held:   []api.Held{held(1, 0, 1), held(1, 1, 2), held(1, 2, 3), held(2, 0, 4), held(3, 0, 6)},
		Notes: []api.Note{
			{Port: 1, Data: "a", Badge: 7}, {Port: 3, Data: "b", Writ: 7}, {Port: 1, Data: "c", Badge: 7, Writ: 8},
		},
		NextWrit: 9, NextThing: 4,
	})
	// Who is above it then takes all of it back.
	s.revoke(1, 1)
	if len(s.r.Writs) != 4 {
		t.Errorf("Revoke of what is above the one that was dropped: %v", s.r)
	}
}

// TestE5DropFirst: what was made of the first one of a thing is of none then, with no right more, and its badge.
func TestE5DropFirst(t *testing.T) {
	s := begin(t)
	s.cell(1, 0)
	s.write(1, 0, "oats")
	s.give(place(1, 0), place(2, 0), 5, 4)
	s.give(place(2, 0), place(3, 0), 1, 0)
	s.give(place(1, 0), place(2, 1), 2, 0)
	s.drop(1, 0)
	s.is(api.Realm{
		Writs: []api.Writ{
			{ID: 2, Thing: 1, Rights: 5, Badge: 4}, {ID: 3, Thing: 1, Rights: 1, Badge: 4, From: 2}, {ID: 4, Thing: 1, Rights: 2},
		},
		Things:   []api.Thing{{ID: 1, Kind: 1, Data: "oats"}},
		Held:     []api.Held{held(2, 0, 2), held(2, 1, 4), held(3, 0, 3)},
		NextWrit: 5, NextThing: 2,
	})
}

// TestE5DropLast: with the last writ of it a thing is gone, and no other one; the numbers go on.
func TestE5DropLast(t *testing.T) {
	s := begin(t)
	s.cell(1, 0)
	s.cell(1, 1)
	s.write(1, 1, "hay")
	s.give(place(1, 0), place(4, 5), 0, 0)
	s.drop(1, 0)
	if len(s.r.Things) != 2 {
		t.Errorf("a thing with a writ of it is gone: %v", s.r)
	}
	s.drop(4, 5)
	s.is(api.Realm{
		Writs: []api.Writ{{ID: 2, Thing: 2, Rights: 7}}, Things: []api.Thing{{ID: 2, Kind: 1, Data: "hay"}},
		Held: []api.Held{held(1, 1, 2)}, NextWrit: 4, NextThing: 3,
	})
	s.drop(1, 1)
	s.is(api.Realm{NextWrit: 4, NextThing: 3})
}

// TestE4LastInNote: a thing whose last writ is on its way is there, and whoever takes the note has it.
func TestE4LastInNote(t *testing.T) {
	s := begin(t)
	s.port(1, 0)
	s.cell(1, 1)
	s.write(1, 1, "hay")
	s.sendWith(1, 0, "", 1, 3)
	s.drop(1, 1)
	s.is(api.Realm{
		Writs:    []api.Writ{{ID: 1, Thing: 1, Rights: 7}, {ID: 3, Thing: 2, Rights: 3}},
		Things:   []api.Thing{{ID: 1, Kind: 2}, {ID: 2, Kind: 1, Data: "hay"}},
		Held:     []api.Held{held(1, 0, 1)},
		Notes:    []api.Note{{Port: 1, Writ: 3}},
		NextWrit: 4, NextThing: 3,
	})
	s.take(1, 0, api.Note{Port: 1, Writ: 3}, 1)
	if data, err := realm.Read(s.r, place(1, 1)); data != "hay" || err != nil {
		t.Errorf("Read, by a writ that was on its way: %q %v", data, err)
	}
}

// TestE4PortDies: with a port its notes are gone, and their writs, of it and of other things; notes at other ports stand as they came.
func TestE4PortDies(t *testing.T) {
	s := begin(t)
	s.port(1, 0)
	s.port(2, 0)
	s.cell(1, 1)
	s.cell(1, 2)
	s.give(place(1, 1), place(2, 1), 5, 0)
	s.give(place(2, 0), place(1, 3), 6, 8)
	s.send(2, 0, "one")
	s.sendWith(1, 0, "kept", 1, 1)
	s.send(1, 3, "two")
	s.sendWith(1, 0, "last", 2, 7)
	s.sendWith(2, 0, "three", 1, 1)
	s.send(1, 0, "none")
	s.drop(1, 2)
	s.drop(1, 0)
	s.is(api.Realm{
		Writs: []api.Writ{
			{ID: 2, Thing: 2, Rights: 7},
			{ID: 3, Thing: 3, Rights: 7},
			{ID: 5, Thing: 3, Rights: 5, From: 3},
			{ID: 6, Thing: 2, Rights: 6, Badge: 8, From: 2},
			{ID: 9, Thing: 3, Rights: 1, From: 5},
		},
		Things: []api.Thing{{ID: 2, Kind: 2}, {ID: 3, Kind: 1}},
		Held:   []api.Held{held(1, 1, 3), held(1, 3, 6), held(2, 0, 2), held(2, 1, 5)},
		Notes: []api.Note{
			{Port: 2, Data: "one"}, {Port: 2, Data: "two", Badge: 8}, {Port: 2, Data: "three", Writ: 9},
		},
		NextWrit: 10, NextThing: 5,
	})
}

// chain: three ports, each of the last two with its only writ in a note at the one ahead, and a cell whose only writ is in a note at the last one.
func chain(t *testing.T) *story {
	s := begin(t)
	for slot := range 3 {
		s.port(1, slot)
	}
	s.cell(1, 3)
	s.cell(1, 4)
	s.sendWith(1, 2, "c", 3, 1)
	s.sendWith(1, 1, "b", 2, 7)
	s.sendWith(1, 0, "a", 1, 7)
	s.sendWith(1, 2, "d", 4, 1)
	for slot := 1; slot <= 3; slot++ {
		s.drop(1, slot)
	}
	if len(s.r.Things) != 5 || len(s.r.Writs) != 6 || len(s.r.Notes) != 4 {
		t.Fatalf("chain: %v", s.r)
	}
	return s
}

// TestE4Again: a port that dies by a writ in a lost note loses its notes too, and so on, whichever note came first.
func TestE4Again(t *testing.T) {
	s := chain(t)
	s.drop(1, 0)
	s.is(api.Realm{
		Writs: []api.Writ{{ID: 5, Thing: 5, Rights: 7}}, Things: []api.Thing{{ID: 5, Kind: 1}},
		Held: []api.Held{held(1, 4, 5)}, NextWrit: 10, NextThing: 6,
	})
}

// TestE4OwnNote: a port of which the only writ is in a note at itself is there, as a writ is of it (W5); nobody gets at it, and when it is quiet it is gone.
func TestE4OwnNote(t *testing.T) {
	s := begin(t)
	s.port(1, 0)
	s.sendWith(1, 0, "x", 0, 7)
	s.drop(1, 0)
	s.is(api.Realm{
		Writs: []api.Writ{{ID: 2, Thing: 1, Rights: 7}}, Things: []api.Thing{{ID: 1, Kind: 2}},
		Notes: []api.Note{{Port: 1, Data: "x", Writ: 2}}, NextWrit: 3, NextThing: 2,
	})
	s.then(realm.Quiet(s.r), nil)
	s.is(api.Realm{NextWrit: 3, NextThing: 2})
}

// TestE5Revoke: all that was made of it is gone, at any remove, whoever holds it; a note that had one of them has none; it, what is above it, and beside it, is as it was.
func TestE5Revoke(t *testing.T) {
	s := begin(t)
	s.r = busy(t)
	s.give(place(1, 1), place(4, 4), 4, 0)
	s.revoke(2, 1)
	s.is(api.Realm{
		Writs: []api.Writ{
			{ID: 1, Thing: 1, Rights: 7},
			{ID: 2, Thing: 2, Rights: 7},
			{ID: 3, Thing: 3, Rights: 7},
			{ID: 4, Thing: 1, Rights: 6, Badge: 7, From: 1},
			{ID: 5, Thing: 2, Rights: 5, From: 2},
			{ID: 7, Thing: 2, Rights: 3, From: 2},
			{ID: 9, Thing: 2, Rights: 4, From: 2},
		},
		Things: []api.Thing{{ID: 1, Kind: 2}, {ID: 2, Kind: 1, Data: "hay"}, {ID: 3, Kind: 2}},
		Held:   []api.Held{held(1, 0, 1), held(1, 1, 2), held(1, 2, 3), held(2, 0, 4), held(2, 1, 5), held(4, 4, 9)},
		Notes: []api.Note{
			{Port: 1, Data: "a", Badge: 7}, {Port: 3, Data: "b", Writ: 7}, {Port: 1, Data: "c", Badge: 7},
		},
		NextWrit: 10, NextThing: 4,
	})
	s.revoke(1, 1)
	s.is(api.Realm{
		Writs: []api.Writ{
			{ID: 1, Thing: 1, Rights: 7}, {ID: 2, Thing: 2, Rights: 7}, {ID: 3, Thing: 3, Rights: 7},
			{ID: 4, Thing: 1, Rights: 6, Badge: 7, From: 1},
		},
		Things: []api.Thing{{ID: 1, Kind: 2}, {ID: 2, Kind: 1, Data: "hay"}, {ID: 3, Kind: 2}},
		Held:   []api.Held{held(1, 0, 1), held(1, 1, 2), held(1, 2, 3), held(2, 0, 4)},
		Notes: []api.Note{
			{Port: 1, Data: "a", Badge: 7}, {Port: 3, Data: "b"}, {Port: 1, Data: "c", Badge: 7},
		},
		NextWrit: 10, NextThing: 4,
	})
	// A note whose writ was taken back is taken without one.
	s.take(1, 2, api.Note{Port: 3, Data: "b"}, -1)
	was := s.r
	s.revoke(1, 1)
	s.is(was)
}

// TestE5RevokeTaken: what was taken from a note is beneath what it was made of, and goes back with it.
func TestE5RevokeTaken(t *testing.T) {
	s := begin(t)
	s.port(1, 0)
	s.cell(1, 1)
	s.give(place(1, 0), place(2, 0), 1, 0)
	s.sendWith(1, 0, "x", 1, 5)
	s.take(2, 0, api.Note{Port: 1, Data: "x", Writ: 4}, 1)
	s.give(place(2, 1), place(3, 3), 1, 0)
	s.revoke(1, 1)
	for _, p := range []api.Place{place(2, 1), place(3, 3)} {
		if got, err := realm.Read(s.r, p); got != "" || err != error(api.ErrNone) {
			t.Errorf("Read(%v), what was revoked: %q %v", p, got, err)
		}
	}
	if _, err := realm.Read(s.r, place(1, 1)); err != nil {
		t.Errorf("Read, by who revoked: %v", err)
	}
}

// TestE6Quiet: no notes; the writs that were in them are gone, with the things that had no other one, and all that waited there.
func TestE6Quiet(t *testing.T) {
	s := begin(t)
	s.r = busy(t)
	s.then(realm.Quiet(s.r), nil)
	quiet := api.Realm{
		Writs: []api.Writ{
			{ID: 1, Thing: 1, Rights: 7},
			{ID: 2, Thing: 2, Rights: 7},
			{ID: 3, Thing: 3, Rights: 7},
			{ID: 4, Thing: 1, Rights: 6, Badge: 7, From: 1},
			{ID: 5, Thing: 2, Rights: 5, From: 2},
			{ID: 6, Thing: 2, Rights: 1, Badge: 3, From: 5},
		},
		Things:   []api.Thing{{ID: 1, Kind: 2}, {ID: 2, Kind: 1, Data: "hay"}, {ID: 3, Kind: 2}},
		Held:     []api.Held{held(1, 0, 1), held(1, 1, 2), held(1, 2, 3), held(2, 0, 4), held(2, 1, 5), held(3, 0, 6)},
		NextWrit: 9, NextThing: 4,
	}
	s.is(quiet)
	s.then(realm.Quiet(s.r), nil)
	s.is(quiet)
	s = chain(t)
	s.then(realm.Quiet(s.r), nil)
	s.is(api.Realm{
		Writs: []api.Writ{{ID: 1, Thing: 1, Rights: 7}, {ID: 5, Thing: 5, Rights: 7}}, Things: []api.Thing{{ID: 1, Kind: 2}, {ID: 5, Kind: 1}},
		Held: []api.Held{held(1, 0, 1), held(1, 4, 5)}, NextWrit: 10, NextThing: 6,
	})
	if got := realm.Quiet(realm.New()); !same(got, realm.New()) {
		t.Errorf("Quiet, of a new realm: %v", got)
	}
}
