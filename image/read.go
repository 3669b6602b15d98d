package image

import "writkeep/api"

// read a row into a realm; false: it is no row.
func read(r *api.Realm, c api.Change) bool {
	if c.Key == "" {
		return false
	}
	key := c.Key[1:]
	switch c.Key[0] {
	case 'h':
		return readHeld(r, key, c.Val)
	case 't':
		return readThing(r, key, c.Val)
	case 'w':
		return readWrit(r, key, c.Val)
	case 'x':
		return readNext(r, key, c.Val)
	}
	return false
}

func readHeld(r *api.Realm, key, val string) bool {
	place, isPlace := numbers(key, 1, 2)
	id, isWrit := numbers(val, 4, 1)
	if !isPlace || !isWrit {
		return false
	}
	r.Held = append(r.Held, api.Held{Place: api.Place{Holder: place[0], Slot: place[1]}, Writ: id[0]})
	return true
}

func readThing(r *api.Realm, key, val string) bool {
	end := min(4, len(val))
	id, isThing := numbers(key, 4, 1)
	kind, isKind := numbers(val[:end], 4, 1)
	if !isThing || !isKind {
		return false
	}
	r.Things = append(r.Things, api.Thing{ID: id[0], Kind: kind[0], Data: val[end:]})
	return true
}

func readWrit(r *api.Realm, key, val string) bool {
	id, isWrit := numbers(key, 4, 1)
	of, isOf := numbers(val, 4, 4)
	if !isWrit || !isOf {
		return false
	}
	r.Writs = append(r.Writs, api.Writ{ID: id[0], Thing: of[0], Rights: of[1], Badge: of[2], From: of[3]})
	return true
}

func readNext(r *api.Realm, key, val string) bool {
	next, is := numbers(val, 4, 2)
	if key != "" || !is {
		return false
	}
	r.NextWrit, r.NextThing = next[0], next[1]
	return true
}
