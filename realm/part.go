package realm

import (
	"slices"

	"writkeep/api"
	"writkeep/right"
	"writkeep/shelf"
	"writkeep/writ"
)

// free: may a writ be put at a place?
func free(r api.Realm, p api.Place) error {
	if err := shelf.Check(p); err != nil {
		return err
	}
	if shelf.At(r.Held, p) != 0 {
		return api.ErrTaken
	}
	return nil
}

// who may, by the writ at a place, do what needs rights with a thing of a kind: that writ.
func who(r api.Realm, p api.Place, kind, rights int) (api.Writ, error) {
	w, err := Get(r, p)
	if err != nil {
		return api.Writ{}, err
	}
	at := find(r, w.Thing)
	if at < 0 || r.Things[at].Kind != kind {
		return api.Writ{}, api.ErrKind
	}
	if !right.Has(w.Rights, rights) {
		return api.Writ{}, api.ErrRight
	}
	return w, nil
}

// find a thing by its number; below 0: there is none.
func find(r api.Realm, thing int) int {
	return slices.IndexFunc(r.Things, func(t api.Thing) bool { return t.ID == thing })
}

// waiting: how many notes are at a port?
func waiting(r api.Realm, port int) int {
	return len(leaveOut(r.Notes, func(n api.Note) bool { return n.Port != port }))
}

// add a writ of the next number, held nowhere yet.
func add(r api.Realm, w api.Writ) api.Realm {
	out := Copy(r)
	out.Writs = append(out.Writs, w)
	out.NextWrit++
	return out
}

// derive a writ of the next number of another one, held nowhere yet.
func derive(r api.Realm, w api.Writ, rights, badge int) (api.Realm, error) {
	if r.NextWrit > api.MaxID {
		return api.Realm{}, api.ErrFull
	}
	made, err := writ.Derive(w, r.NextWrit, rights, badge)
	if err != nil {
		return api.Realm{}, err
	}
	return add(r, made), nil
}

// enclose a writ in a note: one that is made of the one at a place; just by a port's writ that may grant, as whoever takes the note gets it.
func enclose(r api.Realm, port api.Writ, p api.Place, rights int) (api.Realm, error) {
	if !right.Has(port.Rights, api.Grant) {
		return api.Realm{}, api.ErrRight
	}
	w, err := Get(r, p)
	if err != nil {
		return api.Realm{}, err
	}
	return derive(r, w, rights, 0)
}
