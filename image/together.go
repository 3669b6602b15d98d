package image

import (
	"slices"

	"writkeep/api"
	"writkeep/shelf"
	"writkeep/tree"
)

// together: does a realm that was read from rows that rise go together?
func together(r api.Realm) bool {
	return tree.Check(r.Writs) == nil && thingsMayBe(r) && heldMayBe(r) && nextMayBe(r)
}

// thingsMayBe: are things just those that writs are of, and each as a cell, or a port, may be?
func thingsMayBe(r api.Realm) bool {
	var ids []int
	for _, t := range r.Things {
		if !thingMayBe(t) {
			return false
		}
		ids = append(ids, t.ID)
	}
	return len(ids) <= api.MaxThings && slices.Equal(ids, tree.Things(r.Writs))
}

func thingMayBe(t api.Thing) bool {
	switch t.Kind {
	case api.Cell:
		return len(t.Data) <= api.MaxData
	case api.Port:
		return t.Data == ""
	}
	return false
}

// heldMayBe: is each writ held at one place, and nothing else?
func heldMayBe(r api.Realm) bool {
	for _, h := range r.Held {
		if shelf.Check(h.Place) != nil {
			return false
		}
	}
	for _, w := range r.Writs {
		if _, is := shelf.Where(r.Held, w.ID); !is {
			return false
		}
	}
	// Each writ has a place of its own: with as many places as writs there is no second one of any, and none of another one.
	return len(r.Held) == len(r.Writs)
}

// nextMayBe: are the next numbers such that no number is given out twice?
func nextMayBe(r api.Realm) bool {
	writ, thing := r.NextWrit, r.NextThing
	if writ < 1 || writ > api.MaxID+1 || thing < 1 || thing > api.MaxID+1 {
		return false
	}
	return !slices.ContainsFunc(r.Writs, func(w api.Writ) bool { return w.ID >= writ }) &&
		!slices.ContainsFunc(r.Things, func(t api.Thing) bool { return t.ID >= thing })
}
