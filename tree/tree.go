// Package tree: which writs were made of which.
package tree

import (
	"slices"

	"writkeep/api"
	"writkeep/writ"
)

// Beneath a writ: all that were made of it, and of these, rising.
func Beneath(l []api.Writ, id int) []int {
	var out []int
	beneath := map[int]struct{}{}
	// Once through is enough: what a writ was made of stands ahead of it.
	for _, w := range l {
		_, further := beneath[w.From]
		if w.From != 0 && (w.From == id || further) {
			beneath[w.ID] = struct{}{}
			out = append(out, w.ID)
		}
	}
	return out
}

// Above a writ: what it was made of, and that, up to the first one.
func Above(l []api.Writ, id int) []int {
	var out []int
	at := writ.Find(l, id)
	for at >= 0 && l[at].From != 0 {
		from := l[at].From
		out = append(out, from)
		// Just those ahead are looked at, so that this ends also with writs that go round in a ring.
		at = writ.Find(l[:at], from)
	}
	return out
}

// Without a writ: those that were made of it were made of what it was made of.
func Without(l []api.Writ, id int) []api.Writ {
	from := id
	if at := writ.Find(l, id); at >= 0 {
		from = l[at].From
	}
	var out []api.Writ
	for _, w := range l {
		if w.ID == id {
			continue
		}
		if w.From == id {
			w.From = from
		}
		out = append(out, w)
	}
	return out
}

// Check writs that rise: each was made of one that is there, of the same thing, with all of its rights, and its badge, if it has one.
func Check(l []api.Writ) error {
	for i, w := range l {
		if err := writ.Check(w); err != nil {
			return err
		}
		if i > 0 && w.ID <= l[i-1].ID {
			return api.ErrShape
		}
		if err := checkFrom(l[:i], w); err != nil {
			return err
		}
	}
	return nil
}

// checkFrom: may a writ have been made of one of those ahead?
func checkFrom(ahead []api.Writ, w api.Writ) error {
	if w.From == 0 {
		return nil
	}
	at := writ.Find(ahead, w.From)
	if at < 0 {
		return api.ErrNone
	}
	made, err := writ.Derive(ahead[at], w.ID, w.Rights, w.Badge)
	if err != nil {
		return err
	}
	// Another thing, or no badge where there should be one, is seen just here.
	if made != w {
		return api.ErrRight
	}
	return nil
}

// Things that writs are of, rising.
func Things(l []api.Writ) []int {
	var out []int
	for _, w := range l {
		out = append(out, w.Thing)
	}
	slices.Sort(out)
	return slices.Compact(out)
}
