package realm_test

import (
	"math"
	"testing"

	"writkeep/api"
	"writkeep/realm"
)

// TestE7Cell: what was written is read, by whoever may look at that cell; no other cell has it.
func TestE7Cell(t *testing.T) {
	s := begin(t)
	s.cell(1, 0)
	s.cell(1, 1)
	s.cell(1, 2)
	s.give(place(1, 1), place(2, 0), 1, 5)
	s.give(place(1, 1), place(3, 0), 2, 0)
	for _, data := range []string{"hay", "12345678", "", "\x00\xff é\n", "a b", "-", "zzzzzzzz"} {
		s.write(1, 1, "other")
		s.write(3, 0, data)
		for p, want := range map[api.Place]string{place(1, 0): "", place(1, 1): data, place(2, 0): data, place(1, 2): ""} {
			if got, err := realm.Read(s.r, p); got != want || err != nil {
				t.Errorf("Read(%v), behind Write(%q): %q %v", p, data, got, err)
			}
		}
		s.is(api.Realm{
			Writs: s.r.Writs, Held: s.r.Held, NextWrit: 6, NextThing: 4,
			Things: []api.Thing{{ID: 1, Kind: 1}, {ID: 2, Kind: 1, Data: data}, {ID: 3, Kind: 1}},
		})
	}
}

// TestE7WhoMay goes over all rights and both kinds: each deed needs one right, and no other, and one kind.
func TestE7WhoMay(t *testing.T) {
	deeds := map[string]struct {
		kind, right int
		do          func(r api.Realm, p api.Place) error
	}{
		"Read":  {api.Cell, api.Look, func(r api.Realm, p api.Place) error { _, err := realm.Read(r, p); return err }},
		"Write": {api.Cell, api.Alter, func(r api.Realm, p api.Place) error { _, err := realm.Write(r, p, "x"); return err }},
		"Send":  {api.Port, api.Alter, func(r api.Realm, p api.Place) error { _, err := realm.Send(r, p, "x", -1, 0); return err }},
		"Take":  {api.Port, api.Look, func(r api.Realm, p api.Place) error { _, _, _, err := realm.Take(r, p); return err }},
	}
	for has := range 8 {
		s := begin(t)
		s.cell(1, 0)
		s.port(1, 1)
		s.send(1, 1, "x")
		s.give(place(1, 0), place(2, api.Cell), has, 0)
		s.give(place(1, 1), place(2, api.Port), has, 0)
		for name, d := range deeds {
			for _, kind := range []int{api.Cell, api.Port} {
				var want error
				if kind != d.kind {
					want = api.ErrKind
				} else if has&d.right == 0 {
					want = api.ErrRight
				}
				if err := d.do(s.r, place(2, kind)); err != want {
					t.Errorf("%s, of kind %d, by rights %d: %v, not %v", name, kind, has, err, want)
				}
			}
		}
	}
}

// TestE8Send: a note has the port, the data, and the sender's badge, and stands behind all others; without a writ no number is used, and no rights are looked at.
func TestE8Send(t *testing.T) {
	s := begin(t)
	s.port(1, 0)
	s.port(1, 1)
	s.give(place(1, 0), place(2, 0), 2, 7)
	s.then(realm.Send(s.r, place(2, 0), "12345678", -1, 99))
	s.then(realm.Send(s.r, place(1, 1), "", math.MinInt, -1))
	s.then(realm.Send(s.r, place(1, 0), "a", -2, 7))
	s.is(api.Realm{
		Writs:    []api.Writ{{ID: 1, Thing: 1, Rights: 7}, {ID: 2, Thing: 2, Rights: 7}, {ID: 3, Thing: 1, Rights: 2, Badge: 7, From: 1}},
		Things:   []api.Thing{{ID: 1, Kind: 2}, {ID: 2, Kind: 2}},
		Held:     []api.Held{held(1, 0, 1), held(1, 1, 2), held(2, 0, 3)},
		Notes:    []api.Note{{Port: 1, Data: "12345678", Badge: 7}, {Port: 2}, {Port: 1, Data: "a"}},
		NextWrit: 4, NextThing: 3,
	})
}

// TestE8With: the note's writ is made of the one in the slot, keeps its badge, and is held nowhere; that one needs no Grant, the port's does.
func TestE8With(t *testing.T) {
	s := begin(t)
	s.port(1, 0)
	s.cell(1, 1)
	s.give(place(1, 1), place(2, 4), 3, 9)
	s.give(place(1, 0), place(2, 0), 6, 5)
	s.give(place(1, 0), place(2, 1), 3, 0)
	s.sendWith(2, 0, "x", 4, 1)
	s.sendWith(2, 0, "y", 0, 2)
	s.is(api.Realm{
		Writs: []api.Writ{
			{ID: 1, Thing: 1, Rights: 7},
			{ID: 2, Thing: 2, Rights: 7},
			{ID: 3, Thing: 2, Rights: 3, Badge: 9, From: 2},
			{ID: 4, Thing: 1, Rights: 6, Badge: 5, From: 1},
			{ID: 5, Thing: 1, Rights: 3, From: 1},
			{ID: 6, Thing: 2, Rights: 1, Badge: 9, From: 3},
			{ID: 7, Thing: 1, Rights: 2, Badge: 5, From: 4},
		},
		Things:   []api.Thing{{ID: 1, Kind: 2}, {ID: 2, Kind: 1}},
		Held:     []api.Held{held(1, 0, 1), held(1, 1, 2), held(2, 0, 4), held(2, 1, 5), held(2, 4, 3)},
		Notes:    []api.Note{{Port: 1, Data: "x", Badge: 5, Writ: 6}, {Port: 1, Data: "y", Badge: 5, Writ: 7}},
		NextWrit: 8, NextThing: 3,
	})
	if got, err := realm.Send(s.r, place(2, 1), "z", 0, 2); !same(got, api.Realm{}) || err != error(api.ErrRight) {
		t.Errorf("Send with a writ, by a port's without Grant: %v %v", got, err)
	}
	s.send(2, 1, "z")
}

// TestE8Waiting: three notes at each port, and no more, until one is taken.
func TestE8Waiting(t *testing.T) {
	s := begin(t)
	s.port(1, 0)
	s.port(1, 1)
	for _, data := range []string{"a", "b", "c"} {
		s.send(1, 0, data)
		s.send(1, 1, data)
	}
	for slot := range 2 {
		for _, with := range []int{-1, 0} {
			if got, err := realm.Send(s.r, place(1, slot), "d", with, 1); !same(got, api.Realm{}) || err != error(api.ErrFull) {
				t.Errorf("Send, behind three notes: %v %v", got, err)
			}
		}
	}
	s.take(1, 1, api.Note{Port: 2, Data: "a"}, -1)
	s.send(1, 1, "d")
	if _, err := realm.Send(s.r, place(1, 0), "d", -1, 0); err != error(api.ErrFull) {
		t.Errorf("Send, one was taken elsewhere: %v", err)
	}
}

// TestE8RunOut: the last number goes into a note; behind it notes go without writs.
func TestE8RunOut(t *testing.T) {
	s := spent(t, 999)
	s.sendWith(1, 0, "x", 0, 1)
	if got, err := realm.Send(s.r, place(1, 0), "y", 0, 1); !same(got, api.Realm{}) || err != error(api.ErrFull) {
		t.Errorf("Send with a writ, of no number: %v %v", got, err)
	}
	s.send(1, 0, "y")
	s.take(1, 0, api.Note{Port: 1, Data: "x", Writ: 999}, 1)
	if w, err := realm.Get(s.r, place(1, 1)); w != (api.Writ{ID: 999, Thing: 1, Rights: 1, From: 1}) || err != nil {
		t.Errorf("Get: %v %v", w, err)
	}
}

// TestE9Take: the port's first note, whatever waits ahead at others; its writ is in the taker's first free slot; all else is as it was.
func TestE9Take(t *testing.T) {
	s := begin(t)
	s.r = busy(t)
	s.give(place(1, 0), place(2, 2), 1, 8)
	s.drop(2, 0)
	was := realm.Copy(s.r)
	s.take(1, 2, api.Note{Port: 3, Data: "b", Writ: 7}, 3)
	was.Held = []api.Held{held(1, 0, 1), held(1, 1, 2), held(1, 2, 3), held(1, 3, 7), held(2, 1, 5), held(2, 2, 9), held(3, 0, 6)}
	was.Notes = []api.Note{{Port: 1, Data: "a", Badge: 7}, {Port: 1, Data: "c", Badge: 7, Writ: 8}}
	s.is(was)
	s.take(2, 2, api.Note{Port: 1, Data: "a", Badge: 7}, -1)
	was.Notes = []api.Note{{Port: 1, Data: "c", Badge: 7, Writ: 8}}
	s.is(was)
	s.take(2, 2, api.Note{Port: 1, Data: "c", Badge: 7, Writ: 8}, 0)
	was.Held = []api.Held{held(1, 0, 1), held(1, 1, 2), held(1, 2, 3), held(1, 3, 7), held(2, 0, 8), held(2, 1, 5), held(2, 2, 9), held(3, 0, 6)}
	was.Notes = nil
	s.is(was)
	for _, p := range []api.Place{place(1, 0), place(1, 2)} {
		if r, n, slot, err := realm.Take(s.r, p); !same(r, api.Realm{}) || n != (api.Note{}) || slot != 0 || err != error(api.ErrNone) {
			t.Errorf("Take(%v), of none: %v %v %d %v", p, r, n, slot, err)
		}
	}
}

// TestE9Full: a note with a writ waits until its taker has a free slot; one without is taken anyway.
func TestE9Full(t *testing.T) {
	s := begin(t)
	s.port(1, 0)
	for slot := 1; slot < 6; slot++ {
		s.give(place(1, 0), place(1, slot), 7, 0)
	}
	s.send(1, 0, "a")
	s.sendWith(1, 0, "b", 5, 3)
	s.take(1, 3, api.Note{Port: 1, Data: "a"}, -1)
	if r, n, slot, err := realm.Take(s.r, place(1, 0)); !same(r, api.Realm{}) || n != (api.Note{}) || slot != 0 || err != error(api.ErrFull) {
		t.Errorf("Take, of who has no free slot: %v %v %d %v", r, n, slot, err)
	}
	s.drop(1, 5)
	s.take(1, 0, api.Note{Port: 1, Data: "b", Writ: 7}, 5)
	if w, err := realm.Get(s.r, place(1, 5)); w != (api.Writ{ID: 7, Thing: 1, Rights: 3, From: 1}) || err != nil {
		t.Errorf("Get, what was taken: %v %v", w, err)
	}
}

// TestW4InOrder: notes of one port are taken as they were sent, whoever sent and takes, each with its sender's badge.
func TestW4InOrder(t *testing.T) {
	s := begin(t)
	s.port(1, 0)
	s.give(place(1, 0), place(2, 0), 2, 7)
	s.give(place(1, 0), place(3, 0), 3, 8)
	s.give(place(3, 0), place(3, 1), 2, 0)
	for _, n := range []struct {
		p    api.Place
		data string
	}{{place(2, 0), "a"}, {place(3, 1), "b"}, {place(1, 0), "c"}} {
		s.send(n.p.Holder, n.p.Slot, n.data)
	}
	s.take(3, 0, api.Note{Port: 1, Data: "a", Badge: 7}, -1)
	s.take(1, 0, api.Note{Port: 1, Data: "b", Badge: 8}, -1)
	s.take(3, 0, api.Note{Port: 1, Data: "c"}, -1)
}
