package realm

import (
	"slices"

	"writkeep/api"
	"writkeep/tree"
	"writkeep/writ"
)

// sweep what is no more out of a realm.
func sweep(r api.Realm) api.Realm {
	lost := lostNotes(r)
	// A lost note's writ may have been the last one of another port, where notes are lost then.
	for len(lost) > 0 {
		r.Writs = withoutEnclosed(r.Writs, lost)
		r.Notes = leaveOut(r.Notes, func(n api.Note) bool { return slices.Contains(lost, n) })
		lost = lostNotes(r)
	}
	things := tree.Things(r.Writs)
	r.Things = leaveOut(r.Things, func(t api.Thing) bool { return !slices.Contains(things, t.ID) })
	r.Held = leaveOut(r.Held, func(h api.Held) bool { return writ.Find(r.Writs, h.Writ) < 0 })
	r.Notes = forget(r.Notes, r.Writs)
	return r
}

// lostNotes: those at ports of which there is no writ.
func lostNotes(r api.Realm) []api.Note {
	things := tree.Things(r.Writs)
	return leaveOut(r.Notes, func(n api.Note) bool { return slices.Contains(things, n.Port) })
}

// withoutEnclosed: writs without those that notes have.
func withoutEnclosed(l []api.Writ, notes []api.Note) []api.Writ {
	for _, n := range notes {
		l = tree.Without(l, n.Writ)
	}
	return l
}

// forget writs that are no more: the notes that had them have none.
func forget(notes []api.Note, l []api.Writ) []api.Note {
	out := slices.Clone(notes)
	for i, n := range out {
		if writ.Find(l, n.Writ) < 0 {
			out[i].Writ = 0
		}
	}
	return out
}

// leaveOut of a list what is no more.
func leaveOut[T any](l []T, gone func(T) bool) []T {
	return slices.DeleteFunc(slices.Clone(l), gone)
}
