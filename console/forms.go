package console

import (
	"strconv"

	"writkeep/api"
	"writkeep/realm"
	"writkeep/right"
	"writkeep/tree"
)

// done: the answer to what has nothing else to tell.
const done = "ok"

// form of a line: the shape of the words behind its first one, of those that may stand behind these, and what it does.
type form struct {
	shape, more string
	do          func(s *session, a args) (string, error)
}

// forms of lines, by their first words.
func forms() map[string]form {
	return map[string]form{
		"cell":    {shape: place, do: cell},
		"port":    {shape: place, do: port},
		"give":    {shape: place + place + rights + number, do: give},
		"move":    {shape: place + number, do: move},
		"drop":    {shape: place, do: drop},
		"revoke":  {shape: place, do: revoke},
		"read":    {shape: place, do: read},
		"write":   {shape: place + data, do: write},
		"send":    {shape: place + data, more: number + rights, do: send},
		"take":    {shape: place, do: take},
		"show":    {shape: place, do: show},
		"all":     {do: all},
		"save":    {do: save},
		"arm":     {shape: number, do: arm},
		"restart": {shape: number, do: restart},
	}
}

// parse the words behind a form's first one; false: the line isn't of this form.
func (f form) parse(words ...string) (args, bool) {
	if len(words) > len(f.shape) {
		return parse(f.shape+f.more, words...)
	}
	return parse(f.shape, words...)
}

// change the realm, so that it is kept.
func (s *session) change(what func(r api.Realm) (api.Realm, error)) (string, error) {
	return ended(s.keep.Do(what))
}

// ended: the answer to what tells just whether it failed.
func ended(err error) (string, error) {
	if err != nil {
		return "", err
	}
	return done, nil
}

func cell(s *session, a args) (string, error) {
	return s.change(func(r api.Realm) (api.Realm, error) { return realm.Make(r, a.place(0), api.Cell) })
}

func port(s *session, a args) (string, error) {
	return s.change(func(r api.Realm) (api.Realm, error) { return realm.Make(r, a.place(0), api.Port) })
}

func give(s *session, a args) (string, error) {
	return s.change(func(r api.Realm) (api.Realm, error) {
		return realm.Give(r, a.place(0), a.place(2), a.rights, a.numbers[4])
	})
}

func move(s *session, a args) (string, error) {
	return s.change(func(r api.Realm) (api.Realm, error) { return realm.Move(r, a.place(0), a.numbers[2]) })
}

func drop(s *session, a args) (string, error) {
	return s.change(func(r api.Realm) (api.Realm, error) { return realm.Drop(r, a.place(0)) })
}

func revoke(s *session, a args) (string, error) {
	return s.change(func(r api.Realm) (api.Realm, error) { return realm.Revoke(r, a.place(0)) })
}

func read(s *session, a args) (string, error) {
	data, err := realm.Read(s.keep.Realm(), a.place(0))
	if err != nil {
		return "", err
	}
	return dataText(data), nil
}

func write(s *session, a args) (string, error) {
	return s.change(func(r api.Realm) (api.Realm, error) { return realm.Write(r, a.place(0), a.data) })
}

func send(s *session, a args) (string, error) {
	slot := -1
	if len(a.numbers) > len(place) {
		slot = a.numbers[2]
	}
	return s.change(func(r api.Realm) (api.Realm, error) {
		return realm.Send(r, a.place(0), a.data, slot, a.rights)
	})
}

func take(s *session, a args) (string, error) {
	var note api.Note
	var slot int
	_, err := s.change(func(r api.Realm) (api.Realm, error) {
		next, n, at, err := realm.Take(r, a.place(0))
		note, slot = n, at
		return next, err
	})
	if err != nil {
		return "", err
	}
	return join(dataText(note.Data), "badge", strconv.Itoa(note.Badge), "slot", strconv.Itoa(slot)), nil
}

func show(s *session, a args) (string, error) {
	r := s.keep.Realm()
	w, err := realm.Get(r, a.place(0))
	if err != nil {
		return "", err
	}
	beneath := len(tree.Beneath(r.Writs, w.ID))
	return join(strconv.Itoa(w.ID), "of", strconv.Itoa(w.Thing), right.Text(w.Rights), "badge", strconv.Itoa(w.Badge),
		"from", strconv.Itoa(w.From), "beneath", strconv.Itoa(beneath)), nil
}

func all(s *session, _ args) (string, error) {
	r := s.keep.Realm()
	return join(strconv.Itoa(len(r.Writs)), strconv.Itoa(len(r.Things)), strconv.Itoa(len(r.Notes))), nil
}

func save(s *session, _ args) (string, error) {
	return ended(s.keep.Save())
}

func arm(s *session, a args) (string, error) {
	s.disk.Arm(a.numbers[0])
	return done, nil
}

func restart(s *session, a args) (string, error) {
	s.disk.Restart(uint64(a.numbers[0]))
	return ended(s.open())
}
