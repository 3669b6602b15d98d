package image_test

import (
	"maps"
	"regexp"
	"slices"
	"strconv"
	"strings"
	"testing"

	"writkeep/api"
	"writkeep/image"
	"writkeep/realm"
)

// die: numbers that look drawn, the same each time.
type die uint64

func (d *die) n(most int) int {
	*d = *d*6364136223846793005 + 1442695040888963407
	return int(uint64(*d>>33) % uint64(most))
}

// lived: a realm in which some things were done.
func lived(d *die, many int) api.Realm {
	r := realm.New()
	for range many {
		p, to := place(1+d.n(4), d.n(6)), place(1+d.n(4), d.n(6))
		if len(r.Held) > 0 {
			p = r.Held[d.n(len(r.Held))].Place
		}
		x, err := r, error(nil)
		switch d.n(12) {
		case 0, 1, 2:
			x, err = realm.Make(r, to, 1+d.n(2))
		case 3, 4, 5, 6:
			x, err = realm.Give(r, p, to, []int{7, 5, d.n(8)}[d.n(3)], []int{0, 0, d.n(100)}[d.n(3)])
		case 7:
			x, err = realm.Drop(r, p)
		case 8:
			x, err = realm.Write(r, p, []string{"hay", "", "12345678", "0001", "\xff"}[d.n(5)])
		case 9, 10:
			x, err = realm.Send(r, p, "x", d.n(8)-2, 7)
		case 11:
			x, _, _, err = realm.Take(r, p)
		}
		if err == nil {
			r = x
		}
	}
	return r
}

// bent: rows of which one or two became others.
func bent(d *die, l []api.Change) []api.Change {
	l = slices.Clone(l)
	for range 1 + d.n(2) {
		if len(l) == 0 {
			break
		}
		at := d.n(len(l))
		switch d.n(7) {
		case 0:
			l = slices.Delete(l, at, at+1)
		case 1:
			l = slices.Insert(l, d.n(len(l)+1), l[at])
		case 2:
			other := d.n(len(l))
			l[at], l[other] = l[other], l[at]
		case 3:
			l[at].Key = bentText(d, l[at].Key)
		case 4:
			l[at].Gone = d.n(2) == 0
		default:
			l[at].Val = bentText(d, l[at].Val)
		}
	}
	if d.n(2) == 0 {
		slices.SortFunc(l, func(a, b api.Change) int { return strings.Compare(a.Key, b.Key) })
	}
	return l
}

// bentText: most often another digit for one.
func bentText(d *die, s string) string {
	at := d.n(len(s) + 1)
	put := "0123456789-+ htwx\x00"
	n := d.n(len(put))
	if d.n(4) > 0 {
		n = d.n(9)
	}
	switch {
	case d.n(12) == 0:
		return s[:at]
	case at == len(s) || d.n(12) == 0:
		return s[:at] + put[n:n+1] + s[at:]
	}
	return s[:at] + put[n:n+1] + s[at+1:]
}

// shape of a row, with its numbers.
var shape = regexp.MustCompile(`(?s)^(?:h(\d)(\d) (\d{4})|t(\d{4}) (\d{4})(.*)|w(\d{4}) (\d{4})(\d{4})(\d{4})(\d{4})|x (\d{4})(\d{4}))$`)

// told: what rows say, held in maps.
type told struct {
	held   map[[2]int]int
	things map[int]api.Thing
	writs  map[int]api.Writ
	next   [][2]int
}

// tell what rows say; false: they say nothing.
func tell(l []api.Change) (told, bool) {
	o := told{map[[2]int]int{}, map[int]api.Thing{}, map[int]api.Writ{}, nil}
	for i, c := range l {
		m := shape.FindStringSubmatch(strings.ReplaceAll(c.Key, " ", "?") + " " + c.Val)
		if m == nil || c.Gone || i > 0 && strings.Compare(l[i-1].Key, c.Key) >= 0 {
			return o, false
		}
		n := func(i int) int { v, _ := strconv.Atoi(m[i]); return v }
		switch m[0][0] {
		case 'h':
			o.held[[2]int{n(1), n(2)}] = n(3)
		case 't':
			o.things[n(4)] = api.Thing{ID: n(4), Kind: n(5), Data: m[6]}
		case 'w':
			o.writs[n(7)] = api.Writ{ID: n(7), Thing: n(8), Rights: n(9), Badge: n(10), From: n(11)}
		default:
			o.next = append(o.next, [2]int{n(12), n(13)})
		}
	}
	return o, true
}

// right: is a writ right, among the others?
func (o told) right(w api.Writ) bool {
	if w.ID < 1 || w.ID > 999 || w.Thing < 1 || w.Thing > 999 || w.Rights > 7 || w.Badge > 99 || w.From >= w.ID {
		return false
	}
	up, is := o.writs[w.From]
	if w.From == 0 {
		return true
	}
	return is && up.Thing == w.Thing && up.Rights|w.Rights == up.Rights && (up.Badge == 0 || up.Badge == w.Badge)
}

// together: do they go together?
func (o told) together() bool {
	if len(o.next) != 1 || len(o.things) > 10 || len(o.held) != len(o.writs) {
		return false
	}
	next, times := o.next[0], map[int]int{}
	if next[0] < 1 || next[0] > 1000 || next[1] < 1 || next[1] > 1000 {
		return false
	}
	for p, id := range o.held {
		if times[id]++; p[0] < 1 || p[0] > 4 || p[1] > 5 {
			return false
		}
	}
	of := map[int]int{}
	for id, w := range o.writs {
		if of[w.Thing]++; !o.right(w) || times[id] != 1 || id >= next[0] {
			return false
		}
	}
	for id, x := range o.things {
		cell, port := x.Kind == 1 && len(x.Data) <= 8, x.Kind == 2 && x.Data == ""
		if of[id] == 0 || !cell && !port || id >= next[1] {
			return false
		}
	}
	return len(slices.Collect(maps.Keys(of))) == len(o.things)
}

// TestF2Drawn holds Parse of many bent rows against what they say: it reads just those that go together, and what it reads has these rows.
func TestF2Drawn(t *testing.T) {
	d := die(5)
	fine, wrong := 0, 0
	for range 1500 {
		r := lived(&d, d.n(40))
		l := image.Rows(r)
		if got, err := image.Parse(l); !same(got, realm.Quiet(r)) || err != nil {
			t.Fatalf("Parse, of the Rows of %v: %v %v", r, got, err)
		}
		for range 20 {
			b := bent(&d, l)
			o, is := tell(b)
			got, err := image.Parse(b)
			if is && o.together() {
				fine++
				if again := image.Rows(got); err != nil || !slices.Equal(again, b) {
					t.Fatalf("Parse(%v): %v %v", b, got, err)
				}
				continue
			}
			wrong++
			if !same(got, api.Realm{}) || err != error(api.ErrText) {
				t.Fatalf("Parse(%v): %v %v, not ErrText", b, got, err)
			}
		}
	}
	if fine < 1000 || wrong < 10000 {
		t.Errorf("%d go together, %d don't", fine, wrong)
	}
}

// TestF3Drawn: done to the rows that were, in maps, changes make those that are; they rise, and there is none too many.
func TestF3Drawn(t *testing.T) {
	d := die(6)
	for range 1000 {
		a, b := image.Rows(lived(&d, d.n(40))), image.Rows(lived(&d, d.n(40)))
		was, is := map[string]string{}, map[string]string{}
		for _, c := range a {
			was[c.Key] = c.Val
		}
		for _, c := range b {
			is[c.Key] = c.Val
		}
		last := ""
		for _, c := range image.Changes(a, b) {
			val, had := was[c.Key]
			if c.Key <= last || c.Gone && (c.Val != "" || !had) || !c.Gone && had && val == c.Val {
				t.Fatalf("Changes(%v, %v): %v", a, b, c)
			}
			last = c.Key
			if delete(was, c.Key); !c.Gone {
				was[c.Key] = c.Val
			}
		}
		if !maps.Equal(was, is) {
			t.Fatalf("Changes(%v, %v) make %v", a, b, was)
		}
	}
}
