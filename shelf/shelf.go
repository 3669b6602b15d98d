// Package shelf: where writs are held.
package shelf

import (
	"slices"

	"writkeep/api"
)

// Check a place.
func Check(p api.Place) error {
	if p.Holder < 1 || p.Holder > api.MaxHolder || p.Slot < 0 || p.Slot > api.MaxSlot {
		return api.ErrBound
	}
	return nil
}

// At a place: the writ's number; 0: there is none.
func At(l []api.Held, p api.Place) int {
	at := slices.IndexFunc(l, func(h api.Held) bool { return h.Place == p })
	if at < 0 {
		return 0
	}
	return l[at].Writ
}

// Put a writ at a place, instead of what is there (0: nothing is).
func Put(l []api.Held, p api.Place, id int) []api.Held {
	var out []api.Held
	for _, h := range l {
		if before(h.Place, p) {
			out = append(out, h)
		}
	}
	if id != 0 {
		out = append(out, api.Held{Place: p, Writ: id})
	}
	for _, h := range l {
		if before(p, h.Place) {
			out = append(out, h)
		}
	}
	return out
}

// Free slot of a holder: the first one; below 0: there is none.
func Free(l []api.Held, holder int) int {
	for slot := range api.MaxSlot + 1 {
		if At(l, api.Place{Holder: holder, Slot: slot}) == 0 {
			return slot
		}
	}
	return -1
}

// Where a writ is held; false: nowhere.
func Where(l []api.Held, id int) (api.Place, bool) {
	at := slices.IndexFunc(l, func(h api.Held) bool { return h.Writ == id })
	if at < 0 {
		return api.Place{}, false
	}
	return l[at].Place, true
}

// before: the order in which places rise.
func before(p, q api.Place) bool {
	if p.Holder != q.Holder {
		return p.Holder < q.Holder
	}
	return p.Slot < q.Slot
}
