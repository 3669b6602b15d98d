package console_test

import (
	"fmt"
	"regexp"
	"slices"
	"strconv"
	"strings"
	"testing"

	"writkeep/api"
	"writkeep/realm"
	"writkeep/right"
	"writkeep/tree"
)

// die: numbers that look drawn, the same each time.
type die uint64

func (d *die) n(most int) int {
	*d = *d*6364136223846793005 + 1442695040888963407
	return int(uint64(*d>>33) % uint64(most))
}

func (d *die) of(l ...string) string { return l[d.n(len(l))] }

// drawn line, that is one, but for arm.
func drawn(d *die) string {
	p := func() string { return fmt.Sprint(1+d.n(3), " ", d.n(4)) }
	data, rights := d.of("-", "hay", "12345678", "x"), d.of("lag", "lag", "l", "la", "lg", "-")
	switch d.n(16) {
	case 0:
		return "cell " + p()
	case 1:
		return "port " + p()
	case 2, 3, 4:
		return "give " + p() + " " + p() + " " + rights + " " + d.of("0", "0", "7", "99")
	case 5:
		return "move " + p() + " " + d.of("0", "1", "5")
	case 6:
		return "drop " + p()
	case 7:
		return "revoke " + p()
	case 8:
		return "read " + p()
	case 9:
		return "write " + p() + " " + data
	case 10:
		return "send " + p() + " " + data
	case 11, 12:
		return "send " + p() + " " + data + " " + d.of("0", "1", "2") + " " + rights
	case 13, 14:
		return "take " + p()
	}
	return d.of("show "+p(), "all", "save", "restart 0")
}

// spoilt: mostly a line as it is, or with a sign less, more, or another one.
func spoilt(d *die, line string) string {
	at := d.n(len(line))
	sign := d.of(" ", "0", "1", "9", "-", "+", "l", "g", "x", "\t")
	switch d.n(9) {
	case 0:
		return line[:at] + line[at+1:]
	case 1:
		return line[:at] + sign + line[at:]
	case 2:
		return line[:at] + sign + line[at+1:]
	case 3:
		return line + sign
	}
	return line
}

// Which lines there are, by their signs alone.
var forms = func() []*regexp.Regexp {
	var l []*regexp.Regexp
	for _, f := range []string{"(cell) P", "(port) P", "(give) P P R N", "(move) P N", "(drop) P", "(revoke) P", "(read) P", "(write) P D", "(send) P D", "(send) P D N R", "(take) P", "(show) P", "(all)", "(save)", "(arm) N", "(restart) N"} {
		f = strings.ReplaceAll(f, "P", "N N")
		f = strings.ReplaceAll(f, "N", `(0|[1-9][0-9]{0,2})`)
		f = strings.ReplaceAll(f, "R", `(-|l|a|g|la|lg|ag|lag)`)
		f = strings.ReplaceAll(f, "D", `([^ ]+)`)
		l = append(l, regexp.MustCompile(`^`+f+`$`))
	}
	return l
}()

// does a line to a realm: that realm then, and what is told.
func does(r api.Realm, line string) (api.Realm, string) {
	var w []string
	for _, f := range forms {
		if m := f.FindStringSubmatch(line); m != nil && len(line) <= api.MaxLine {
			w = m[1:]
		}
	}
	if w == nil {
		return r, "error 4"
	}
	x, answer, err := doing(r, w)
	if err != nil {
		return r, errno(err.(api.Errno))
	}
	return x, answer
}

func doing(r api.Realm, w []string) (x api.Realm, answer string, err error) {
	at := func(i int) int { n, _ := strconv.Atoi(w[i]); return n }
	place := func(i int) api.Place { return api.Place{Holder: at(i), Slot: at(i + 1)} }
	rights := func(i int) int { n, _ := right.Parse(w[i]); return n }
	dash := func(s string, from, to string) string {
		if s == from {
			return to
		}
		return s
	}
	x, answer = r, "ok"
	switch w[0] {
	case "cell":
		x, err = realm.Make(r, place(1), api.Cell)
	case "port":
		x, err = realm.Make(r, place(1), api.Port)
	case "give":
		x, err = realm.Give(r, place(1), place(3), rights(5), at(6))
	case "move":
		x, err = realm.Move(r, place(1), at(3))
	case "drop":
		x, err = realm.Drop(r, place(1))
	case "revoke":
		x, err = realm.Revoke(r, place(1))
	case "read":
		answer, err = realm.Read(r, place(1))
		answer = dash(answer, "", "-")
	case "write":
		x, err = realm.Write(r, place(1), dash(w[3], "-", ""))
	case "send":
		if len(w) == 4 {
			x, err = realm.Send(r, place(1), dash(w[3], "-", ""), -1, 0)
		} else {
			x, err = realm.Send(r, place(1), dash(w[3], "-", ""), at(4), rights(5))
		}
	case "take":
		var note api.Note
		var slot int
		x, note, slot, err = realm.Take(r, place(1))
		answer = fmt.Sprintf("%s badge %d slot %d", dash(note.Data, "", "-"), note.Badge, slot)
	case "show":
		var g api.Writ
		g, err = realm.Get(r, place(1))
		answer = fmt.Sprintf("%d of %d %s badge %d from %d beneath %d", g.ID, g.Thing, right.Text(g.Rights), g.Badge, g.From, len(tree.Beneath(r.Writs, g.ID)))
	case "all":
		answer = fmt.Sprintf("%d %d %d", len(r.Writs), len(r.Things), len(r.Notes))
	case "restart":
		x = realm.Quiet(r)
	}
	return x, answer, err
}

// TestLDrawn: drawn lines, right and wrong ones, are answered as a realm that isn't kept would have it.
func TestLDrawn(t *testing.T) {
	draw := die(122)
	for range 600 {
		lines := slices.Clone(many[:draw.n(len(many)+1)])
		for len(lines) < api.MaxLines {
			lines = append(lines, spoilt(&draw, drawn(&draw)))
		}
		r := realm.New()
		for i, got := range run(t, lines...) {
			var want string
			if r, want = does(r, lines[i]); got != want {
				t.Fatalf("behind %q: %q: %q, not %q", lines[:i], lines[i], got, want)
			}
		}
	}
}
