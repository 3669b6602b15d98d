package realm_test

import (
	"slices"
	"testing"

	"writkeep/api"
	"writkeep/realm"
	"writkeep/shelf"
	"writkeep/tree"
	"writkeep/writ"
)

// die: numbers that look drawn, the same each time.
type die uint64

func (d *die) n(most int) int {
	*d = *d*6364136223846793005 + 1442695040888963407
	return int(uint64(*d>>33) % uint64(most))
}

// anywhere, or most often where something is held.
func anywhere(d *die, r api.Realm) api.Place {
	if len(r.Held) > 0 && d.n(6) > 0 {
		return r.Held[d.n(len(r.Held))].Place
	}
	return place(d.n(6), d.n(8)-1)
}

// step: something that is done, by whom, and what came of it.
type step struct {
	name  string
	p     api.Place
	other int // to whom it is given (0: to nobody)
	call  call
}

func drawn(d *die, r api.Realm) step {
	p, to := anywhere(d, r), place(1+d.n(4), d.n(6))
	rights, badge, data := []int{7, 7, d.n(9)}[d.n(3)], []int{0, 0, 1 + d.n(100)}[d.n(3)], []string{"", "hay", "12345678", long}[d.n(4)]
	slot := d.n(8) - 2
	switch d.n(16) {
	case 0, 1, 2:
		return step{"Make", to, 0, makes(to, d.n(4))}
	case 3, 4, 5, 6:
		return step{"Give", p, to.Holder, give(p, to, rights, badge)}
	case 7:
		return step{"Move", p, 0, move(p, slot)}
	case 8:
		return step{"Drop", p, 0, drop(p)}
	case 9:
		return step{"Revoke", p, 0, revoke(p)}
	case 10:
		return step{"Write", p, 0, write(p, data)}
	case 11, 12, 13:
		return step{"Send", p, 0, send(p, data, slot, rights)}
	}
	return step{"Take", p, 0, take(p)}
}

// TestW goes long drawn ways through realms: what is to be true of the whole is true behind each step.
func TestW(t *testing.T) {
	d := die(11)
	done := map[string]int{}
	for range 300 {
		r := realm.New()
		for range 120 {
			s := drawn(&d, r)
			was := realm.Copy(r)
			a := s.call(r)
			if !same(r, was) {
				t.Fatalf("%s(%v): the realm that was handed in is %v, not %v", s.name, s.p, r, was)
			}
			if a.err != nil {
				fails(t, s.name, r, s.call, a.err)
				continue
			}
			done[s.name]++
			r = a.realm
			whole(t, r)
			nobodyElse(t, s, was, r)
			if s.name == "Revoke" {
				gone(t, s.p, was, r)
			}
			if t.Failed() {
				t.Fatalf("%s(%v), of %v: %v", s.name, s.p, was, r)
			}
		}
		whole(t, realm.Quiet(r))
	}
	for _, name := range []string{"Make", "Give", "Move", "Drop", "Revoke", "Write", "Send", "Take"} {
		if done[name] < 100 {
			t.Errorf("%s was done %d times alone", name, done[name])
		}
	}
}

// whole: W1 and W5, and the order and the bounds that chapter 5 speaks of.
func whole(t *testing.T, r api.Realm) {
	t.Helper()
	if err := tree.Check(r.Writs); err != nil {
		t.Errorf("W1: %v: %v", r.Writs, err)
	}
	for _, w := range r.Writs {
		for _, id := range tree.Above(r.Writs, w.ID) {
			up := r.Writs[writ.Find(r.Writs, id)]
			if w.Rights&^up.Rights != 0 || w.Thing != up.Thing || up.Badge != 0 && w.Badge != up.Badge {
				t.Errorf("W1: %v has more than %v", w, up)
			}
		}
		if w.ID >= r.NextWrit {
			t.Errorf("the number of %v is given out once more", w)
		}
	}
	var things []int
	for _, x := range r.Things {
		things = append(things, x.ID)
		if x.ID >= r.NextThing || len(x.Data) > 8 || x.Kind == api.Port && x.Data != "" {
			t.Errorf("thing %v may not be", x)
		}
	}
	if !slices.Equal(things, tree.Things(r.Writs)) || len(things) > 10 {
		t.Errorf("W5: things %v, writs %v", things, r.Writs)
	}
	onePlace(t, r)
}

// onePlace: each writ is held at one place, or is in one note (W5), and nothing else is; notes are at ports.
func onePlace(t *testing.T, r api.Realm) {
	t.Helper()
	var at, all []int
	var rebuilt []api.Held
	for _, h := range r.Held {
		at = append(at, h.Writ)
		rebuilt = shelf.Put(rebuilt, h.Place, h.Writ)
		if shelf.Check(h.Place) != nil {
			t.Errorf("%v is no place", h)
		}
	}
	if !slices.Equal(rebuilt, r.Held) {
		t.Errorf("places don't rise: %v", r.Held)
	}
	many := map[int]int{}
	for _, n := range r.Notes {
		if n.Writ != 0 {
			at = append(at, n.Writ)
		}
		if many[n.Port]++; many[n.Port] > 3 || !slices.Contains(r.Things, api.Thing{ID: n.Port, Kind: api.Port}) {
			t.Errorf("note %v may not be", n)
		}
	}
	for _, w := range r.Writs {
		all = append(all, w.ID)
	}
	slices.Sort(at)
	if !slices.Equal(at, all) {
		t.Errorf("W5: writs %v, at places and in notes %v", all, at)
	}
}

// nobodyElse: W3: at the places of who isn't given anything is nothing that wasn't there.
func nobodyElse(t *testing.T, s step, was, r api.Realm) {
	t.Helper()
	for _, h := range r.Held {
		if h.Place.Holder != s.p.Holder && h.Place.Holder != s.other && !slices.Contains(was.Held, h) {
			t.Errorf("W3: %s(%v) put %v there", s.name, s.p, h)
		}
	}
}

// gone: W2: nothing that was made of what was revoked is there, and all else is.
func gone(t *testing.T, p api.Place, was, r api.Realm) {
	t.Helper()
	id := shelf.At(was.Held, p)
	beneath := tree.Beneath(was.Writs, id)
	left := slices.DeleteFunc(slices.Clone(was.Writs), func(w api.Writ) bool { return slices.Contains(beneath, w.ID) })
	if !slices.Equal(r.Writs, left) || !slices.Equal(r.Things, was.Things) || len(r.Notes) != len(was.Notes) {
		t.Errorf("W2: Revoke(%v) of writ %d: %v, not %v", p, id, r.Writs, left)
	}
}
