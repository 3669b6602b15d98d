package image_test

import (
	"fmt"
	"strconv"
	"strings"
	"testing"

	"writkeep/api"
	"writkeep/image"
	"writkeep/realm"
	"writkeep/right"
	"writkeep/tree"
)

// session: the document's example, as far as realms and their rows go.
const session = `
port 1 0 => ok
cell 1 1 => ok
write 1 1 hay => ok
give 1 0 2 0 a 7 => ok
give 1 1 2 1 lg 0 => ok
show 1 1 => 2 of 2 lag badge 0 from 0 beneath 1
read 2 1 => hay
write 2 1 x => error 7
give 2 1 3 1 l 0 => ok
give 2 0 3 0 a 0 => error 7
give 2 1 3 2 la 0 => error 7
read 3 1 => hay
send 2 0 hi => ok
take 1 0 => hi badge 7 slot -1
send 1 0 with 1 l => ok
take 1 0 => with badge 0 slot 2
show 1 2 => 6 of 2 l badge 0 from 2 beneath 0
revoke 1 1 => ok
read 2 1 => error 5
show 1 2 => error 5
all => 3 2 0
cell 2 2 => ok
write 2 2 oats => ok
give 1 0 3 0 lag 3 => ok
send 3 0 a => ok
send 3 0 b => ok
send 3 0 c => ok
send 3 0 d => error 9
take 1 0 => a badge 3 slot -1
show 1 0 => 1 of 1 lag badge 0 from 0 beneath 2
drop 1 0 => ok
show 3 0 => 8 of 1 lag badge 3 from 0 beneath 0
take 3 0 => b badge 3 slot -1
move 3 0 5 => ok
show 3 5 => 8 of 1 lag badge 3 from 0 beneath 0
move 3 5 5 => error 6
give 3 5 3 0 lag 4 => error 7
give 3 5 3 0 lag 3 => ok
restart => ok
all => 5 3 0
take 3 5 => error 5
read 2 2 => oats
drop 2 2 => ok
read 2 2 => error 5
give 1 9 2 0 l 0 => error 1
port 9 0 => error 1
cell 3 0 => error 6
revoke 3 5 => ok
show 3 0 => error 5
all => 3 2 0`

// does a line: the realm then, and what is told.
func does(r api.Realm, line string) (x api.Realm, told string, err error) {
	w := append(strings.Fields(line), make([]string, 6)...)
	n := func(i int) int { v, _ := strconv.Atoi(w[i]); return v }
	p, rights := place(n(1), n(2)), func(i int) int { v, _ := right.Parse(w[i]); return v }
	x, told = r, "ok"
	switch w[0] {
	case "cell":
		x, err = realm.Make(r, p, api.Cell)
	case "port":
		x, err = realm.Make(r, p, api.Port)
	case "give":
		x, err = realm.Give(r, p, place(n(3), n(4)), rights(5), n(6))
	case "move":
		x, err = realm.Move(r, p, n(3))
	case "drop":
		x, err = realm.Drop(r, p)
	case "revoke":
		x, err = realm.Revoke(r, p)
	case "read":
		told, err = realm.Read(r, p)
	case "write":
		x, err = realm.Write(r, p, w[3])
	case "send":
		slot := -1
		if w[4] != "" {
			slot = n(4)
		}
		x, err = realm.Send(r, p, w[3], slot, rights(5))
	case "take":
		var note api.Note
		var slot int
		x, note, slot, err = realm.Take(r, p)
		told = fmt.Sprint(note.Data, " badge ", note.Badge, " slot ", slot)
	case "show":
		var g api.Writ
		g, err = realm.Get(r, p)
		beneath := len(tree.Beneath(r.Writs, g.ID))
		told = fmt.Sprint(g.ID, " of ", g.Thing, " ", right.Text(g.Rights), " badge ", g.Badge, " from ", g.From, " beneath ", beneath)
	case "all":
		told = fmt.Sprint(len(r.Writs), len(r.Things), len(r.Notes))
	case "restart":
		x, err = image.Parse(image.Rows(r))
	}
	return x, told, err
}

// TestWSession: each line of the session is answered as the document says.
func TestWSession(t *testing.T) {
	r := realm.New()
	for _, line := range strings.Split(strings.TrimSpace(session), "\n") {
		do, want, _ := strings.Cut(line, " => ")
		x, told, err := does(r, do)
		if err != nil {
			told = "error " + strconv.Itoa(int(err.(api.Errno)))
		} else {
			r = x
		}
		if told != want {
			t.Errorf("%s: %s, not %s", do, told, want)
		}
	}
}
