// Package writ: writs, and what may be made of them.
package writ

import (
	"slices"

	"writkeep/api"
	"writkeep/right"
)

// Check a writ.
func Check(w api.Writ) error {
	if !within(w.ID, 1, api.MaxID) || !within(w.Thing, 1, api.MaxID) {
		return api.ErrBound
	}
	if !within(w.Badge, 0, api.MaxBadge) || !within(w.From, 0, w.ID-1) {
		return api.ErrBound
	}
	return right.Check(w.Rights)
}

// Derive a writ: of another one, by a number, with at most these rights, and a badge, if that one has none.
func Derive(w api.Writ, id, rights, badge int) (api.Writ, error) {
	if err := right.Check(rights); err != nil {
		return api.Writ{}, err
	}
	if !within(badge, 0, api.MaxBadge) {
		return api.Writ{}, api.ErrBound
	}
	if !right.Has(w.Rights, rights) || otherBadge(w, badge) {
		return api.Writ{}, api.ErrRight
	}
	if w.Badge != 0 {
		badge = w.Badge
	}
	return api.Writ{ID: id, Thing: w.Thing, Rights: rights, Badge: badge, From: w.ID}, nil
}

// Find a writ among others, by its number; below 0: there is none.
func Find(l []api.Writ, id int) int {
	return slices.IndexFunc(l, func(w api.Writ) bool { return w.ID == id })
}

// otherBadge: is a badge asked for that a writ, by the one it has, may not hand on? (0 asks for none.)
func otherBadge(w api.Writ, badge int) bool {
	return w.Badge != 0 && badge != 0 && badge != w.Badge
}

func within(n, least, most int) bool {
	return least <= n && n <= most
}
