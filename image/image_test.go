package image_test

import (
	"math"
	"slices"
	"strings"
	"testing"

	"writkeep/api"
	"writkeep/image"
	"writkeep/realm"
)

func place(holder, slot int) api.Place { return api.Place{Holder: holder, Slot: slot} }

func held(holder, slot, id int) api.Held { return api.Held{Place: place(holder, slot), Writ: id} }

// rows of a text: a line each, the key and the value with a blank between.
func rows(s string) []api.Change {
	var l []api.Change
	for _, line := range strings.Split(strings.TrimSpace(s), "\n") {
		key, val, _ := strings.Cut(strings.TrimLeft(line, "\t"), " ")
		l = append(l, api.Change{Key: key, Val: val})
	}
	return l
}

// same: have two realms the same in them?
func same(a, b api.Realm) bool {
	return slices.Equal(a.Writs, b.Writs) && slices.Equal(a.Things, b.Things) && slices.Equal(a.Held, b.Held) &&
		slices.Equal(a.Notes, b.Notes) && a.NextWrit == b.NextWrit && a.NextThing == b.NextThing
}

// farm: a quiet realm: a cell with data, a port, an empty cell, with what was given of them.
var farm = api.Realm{
	Writs: []api.Writ{
		{ID: 2, Thing: 1, Rights: 7},
		{ID: 3, Thing: 4, Rights: 6, Badge: 12},
		{ID: 10, Thing: 1, Rights: 5, Badge: 7, From: 2},
		{ID: 115, Thing: 1, Rights: 0, Badge: 7, From: 10},
		{ID: 120, Thing: 23, Rights: 7},
	},
	Things:   []api.Thing{{ID: 1, Kind: 1, Data: "hay oats"}, {ID: 4, Kind: 2}, {ID: 23, Kind: 1}},
	Held:     []api.Held{held(1, 0, 10), held(1, 5, 2), held(2, 0, 120), held(3, 3, 115), held(4, 5, 3)},
	NextWrit: 121, NextThing: 30,
}

const farmRows = `
	h10 0010
	h15 0002
	h20 0120
	h33 0115
	h45 0003
	t0001 0001hay oats
	t0004 0002
	t0023 0001
	w0002 0001000700000000
	w0003 0004000600120000
	w0010 0001000500070002
	w0115 0001000000070010
	w0120 0023000700000000
	x 01210030`

// TestF1Rows: of a new realm, of one with all that there may be, and at the numbers' edges.
func TestF1Rows(t *testing.T) {
	for name, c := range map[string]struct {
		r    api.Realm
		want []api.Change
	}{
		"new":  {realm.New(), []api.Change{{Key: "x", Val: "00010001"}}},
		"farm": {farm, rows(farmRows)},
		"edges": {api.Realm{
			Writs:    []api.Writ{{ID: 998, Thing: 999, Rights: 7}, {ID: 999, Thing: 999, Rights: 1, Badge: 99, From: 998}},
			Things:   []api.Thing{{ID: 999, Kind: 1, Data: "\x00\xff0001\n"}},
			Held:     []api.Held{held(1, 0, 999), held(4, 5, 998)},
			NextWrit: 1000, NextThing: 1000,
		}, []api.Change{
			{Key: "h10", Val: "0999"}, {Key: "h45", Val: "0998"}, {Key: "t0999", Val: "0001\x00\xff0001\n"},
			{Key: "w0998", Val: "0999000700000000"}, {Key: "w0999", Val: "0999000100990998"}, {Key: "x", Val: "10001000"},
		}},
	} {
		if got := image.Rows(c.r); !slices.Equal(got, c.want) {
			t.Errorf("%s: Rows: %v, not %v", name, got, c.want)
		}
	}
}

// noisy: a realm where notes wait: with a writ of the port itself, with the only one of a cell, and without.
func noisy(t *testing.T) api.Realm {
	r := realm.New()
	then := func(x api.Realm, err error) {
		t.Helper()
		if err != nil {
			t.Fatal(err)
		}
		r = x
	}
	then(realm.Make(r, place(1, 0), api.Port))
	then(realm.Make(r, place(1, 1), api.Cell))
	then(realm.Make(r, place(1, 2), api.Cell))
	then(realm.Write(r, place(1, 1), "lost"))
	then(realm.Write(r, place(1, 2), "kept"))
	then(realm.Send(r, place(1, 0), "a", 1, 7))
	then(realm.Send(r, place(1, 0), "b", 0, 1))
	then(realm.Send(r, place(1, 0), "c", -1, 0))
	then(realm.Drop(r, place(1, 1)))
	then(realm.Give(r, place(1, 2), place(2, 0), 1, 9))
	return r
}

// TestF1Quiet: what waits is in no row, nor its writs, nor the things that have no other one; the realm is not quiet by that.
func TestF1Quiet(t *testing.T) {
	r := noisy(t)
	want := rows(`
		h10 0001
		h12 0003
		h20 0006
		t0001 0002
		t0003 0001kept
		w0001 0001000700000000
		w0003 0003000700000000
		w0006 0003000100090003
		x 00070004`)
	if got := image.Rows(r); !slices.Equal(got, want) {
		t.Errorf("Rows: %v, not %v", got, want)
	}
	if len(r.Notes) != 3 || len(r.Things) != 3 || len(r.Writs) != 5 {
		t.Errorf("the realm that was handed in is another one: %v", r)
	}
}

// TestF2Parse: rows of a realm, there and back.
func TestF2Parse(t *testing.T) {
	for _, r := range []api.Realm{realm.New(), farm, realm.Quiet(noisy(t)), {NextWrit: 1000, NextThing: 1000}} {
		got, err := image.Parse(image.Rows(r))
		if !same(got, r) || err != nil {
			t.Errorf("Parse, of the Rows of %v: %v %v", r, got, err)
		}
	}
	got, err := image.Parse(rows(farmRows))
	if !same(got, farm) || err != nil {
		t.Errorf("Parse: %v %v", got, err)
	}
}

// cells: so many of them, each with a writ.
func cells(many int) api.Realm {
	r := api.Realm{NextWrit: many + 1, NextThing: many + 1}
	for i := range many {
		r.Writs = append(r.Writs, api.Writ{ID: i + 1, Thing: i + 1, Rights: 7})
		r.Things = append(r.Things, api.Thing{ID: i + 1, Kind: 1})
		r.Held = append(r.Held, held(1+i/6, i%6, i+1))
	}
	return r
}

// with: rows of the farm, a row of that key set to another value (none: taken out), or laid in its place.
func with(key string, val ...string) []api.Change {
	var l []api.Change
	for _, c := range rows(farmRows) {
		if c.Key != key {
			l = append(l, c)
		}
	}
	at, _ := slices.BinarySearchFunc(l, key, func(c api.Change, key string) int { return strings.Compare(c.Key, key) })
	for _, v := range val {
		l = slices.Insert(l, at, api.Change{Key: key, Val: v})
	}
	return l
}

// both: two of them.
func both(l []api.Change, key, val string) []api.Change {
	l = slices.DeleteFunc(l, func(c api.Change) bool { return c.Key == key })
	at, _ := slices.BinarySearchFunc(l, key, func(c api.Change, key string) int { return strings.Compare(c.Key, key) })
	return slices.Insert(l, at, api.Change{Key: key, Val: val})
}

// TestF2Nearly: rows that go together, though they are at an edge.
func TestF2Nearly(t *testing.T) {
	for name, l := range map[string][]api.Change{
		"ten things":             image.Rows(cells(10)),
		"eight bytes":            with("t0001", "000112345678"),
		"eight other bytes":      with("t0001", "0001\x00\xff\n   é"),
		"no data":                with("t0001", "0001"),
		"a port is a cell":       with("t0004", "0001"),
		"a cell is a port":       with("t0023", "0002"),
		"no rights":              with("w0003", "0004000000120000"),
		"no badge":               with("w0003", "0004000600000000"),
		"the highest badge":      with("w0003", "0004000600990000"),
		"of another one":         with("w0115", "0001000000070002"),
		"of none":                with("w0115", "0001000700070000"),
		"the next numbers":       with("x", "01210024"),
		"the last numbers":       with("x", "10001000"),
		"two writs change place": both(with("h10", "0002"), "h15", "0010"),
		"nobody holds anything":  {{Key: "x", Val: "05000400"}},
	} {
		r, err := image.Parse(l)
		if err != nil {
			t.Errorf("%s: %v", name, err)
		} else if got := image.Rows(r); !slices.Equal(got, l) {
			t.Errorf("%s: other rows: %v, not %v", name, got, l)
		}
	}
}

// TestF2Wrong: rows that nearly go together, and others that don't at all; beside the error there is no realm (Z1).
func TestF2Wrong(t *testing.T) {
	swapped, gone := rows(farmRows), rows(farmRows)
	swapped[0], swapped[1] = swapped[1], swapped[0]
	gone[2].Gone = true
	notLast := slices.Insert(with("x"), 0, api.Change{Key: "x", Val: "01210030"})
	unheld := with("h10")
	for name, l := range map[string][]api.Change{
		"none":                      nil,
		"an empty row":              {{}},
		"no next numbers":           with("x"),
		"next numbers, twice":       with("x", "01210030", "01210030"),
		"next numbers are first":    notLast,
		"keys don't rise":           swapped,
		"a key, twice":              with("h10", "0010", "0010"),
		"a thing, twice":            with("t0004", "0002", "0002"),
		"a writ, twice":             with("w0003", "0004000600120000", "0004000600120000"),
		"a row is gone":             gone,
		"the next numbers are gone": {{Key: "x", Val: "00010001", Gone: true}},
		"an empty key":              with("", ""),
		"another key":               with("y", "0001"),
		"another key, ahead":        with("a10", "0010"),
		"a great letter":            with("X", "01210030"),

		"a writ is held nowhere":         unheld,
		"a writ is held twice":           with("h11", "0010"),
		"held twice, another nowhere":    with("h15", "0010"),
		"held, and no writ":              with("h11", "0011"),
		"held, of number 0":              with("h11", "0000"),
		"held instead of a writ":         with("h10", "0011"),
		"held, and gone":                 with("w0115"),
		"holder 0":                       both(unheld, "h05", "0010"),
		"holder 5":                       both(unheld, "h50", "0010"),
		"slot 6":                         both(unheld, "h16", "0010"),
		"a place of three digits":        both(unheld, "h100", "0010"),
		"a place of one digit":           both(unheld, "h1", "0010"),
		"a place of none":                both(unheld, "h", "0010"),
		"a place with a minus":           both(unheld, "h1-", "0010"),
		"a place behind the digits":      both(unheld, "h1:", "0010"),
		"a place ahead of the digits":    both(unheld, "h1/", "0010"),
		"a blank in a place":             both(unheld, "h1 ", "0010"),
		"a number of three digits":       with("h10", "010"),
		"a number of five digits":        with("h10", "00010"),
		"a number of two digits":         with("h10", "10"),
		"no number":                      with("h10", ""),
		"a number with a plus":           with("h10", "+010"),
		"a number with a minus":          with("h10", "-010"),
		"a number with a blank ahead":    with("h10", " 010"),
		"a number with a blank behind":   with("h10", "010 "),
		"a number with a line":           with("h10", "0_10"),
		"a number with a letter":         with("h10", "00a0"),
		"a number with a sign behind 9":  with("h10", "00:0"),
		"a number with a nought byte":    with("h10", "00\x000"),
		"two numbers":                    with("h10", "00100010"),
		"a place has the writ's letters": with("h10", "w010"),

		"a thing without a writ":       with("t0005", "0001"),
		"a writ without a thing":       with("t0023"),
		"another thing":                both(with("t0023"), "t0022", "0001"),
		"thing 0":                      with("t0000", "0001"),
		"kind 0":                       with("t0023", "0000"),
		"kind 3":                       with("t0023", "0003"),
		"kind 9999":                    with("t0023", "9999"),
		"no kind":                      with("t0023", ""),
		"a short kind":                 with("t0023", "001"),
		"a kind with a minus":          with("t0023", "-001"),
		"a kind of a digit, and data":  with("t0001", "1hay"),
		"nine bytes":                   with("t0001", "0001123456789"),
		"eight letters of two bytes":   with("t0001", "0001éééééééé"),
		"a port with data":             with("t0004", "0002a"),
		"a port with a nought byte":    with("t0004", "0002\x00"),
		"a thing's short number":       both(with("t0004"), "t004", "0002"),
		"a thing's long number":        both(with("t0004"), "t00004", "0002"),
		"a thing's number with a plus": both(with("t0004"), "t+004", "0002"),
		"no thing's number":            with("t", "0001"),
		"eleven things":                image.Rows(cells(11)),
		"no thing of ten":              image.Rows(cells(10))[:10],

		"a writ's number is short":        both(with("w0120"), "w120", "0023000700000000"),
		"a writ's number is long":         both(with("w0120"), "w00120", "0023000700000000"),
		"no writ's number":                with("w", "0001000700000000"),
		"three numbers of a writ":         with("w0120", "002300070000"),
		"five numbers of a writ":          with("w0120", "00230007000000000000"),
		"a digit too many":                with("w0120", "00230007000000000"),
		"a digit too few":                 with("w0120", "002300070000000"),
		"a writ's numbers with a sign":    with("w0120", "002300070000-000"),
		"of thing 0":                      with("w0120", "0000000700000000"),
		"of another thing":                with("w0120", "0022000700000000"),
		"of a thing that isn't From's":    with("w0115", "0004000000070010"),
		"rights above all":                with("w0120", "0023000800000000"),
		"a badge above all":               with("w0120", "0023000701000000"),
		"more rights than From":           with("w0115", "0001000200070010"),
		"another badge than From":         with("w0115", "0001000000080010"),
		"no badge, though From has one":   with("w0115", "0001000000000010"),
		"From isn't there":                with("w0115", "0001000000070011"),
		"From is itself":                  with("w0115", "0001000000070115"),
		"From is above":                   with("w0115", "0001000000070120"),
		"From was taken out":              both(with("w0010"), "h10", "0115"),
		"writ 0":                          with("w0000", "0001000700000000"),
		"writ 1000":                       both(with("w1000", "0023000700000000"), "h40", "1000"),
		"the next writ is the last":       with("x", "01200030"),
		"the next writ is below":          with("x", "00110030"),
		"the next thing is the last":      with("x", "01210023"),
		"the next thing is below":         with("x", "01210005"),
		"the next writ is 0":              {{Key: "x", Val: "00000001"}},
		"the next thing is 0":             {{Key: "x", Val: "00010000"}},
		"the next writ is above":          with("x", "10010030"),
		"the next thing is above":         with("x", "01211001"),
		"the next numbers are far":        with("x", "99999999"),
		"one next number":                 with("x", "0121"),
		"three next numbers":              with("x", "012100300001"),
		"no next numbers' value":          with("x", ""),
		"next numbers with a plus":        with("x", "+1210030"),
		"the next numbers' key is longer": both(with("x"), "x1", "01210030"),
		"next numbers, and a longer key":  with("x0", "01210030"),
		"next numbers, and an empty word": with("x ", "01210030"),
	} {
		if r, err := image.Parse(l); !same(r, api.Realm{}) || err != error(api.ErrText) {
			t.Errorf("%s: Parse(%v): %v %v, not ErrText", name, l, r, err)
		}
	}
}

// TestF3Changes: what is just in one of the two, what has another value, and nothing of what is the same.
func TestF3Changes(t *testing.T) {
	row := func(key, val string) api.Change { return api.Change{Key: key, Val: val} }
	gone := func(key string) api.Change { return api.Change{Key: key, Gone: true} }
	for name, c := range map[string]struct{ a, b, want []api.Change }{
		"none":              {nil, nil, nil},
		"the same":          {rows(farmRows), rows(farmRows), nil},
		"all new":           {nil, []api.Change{row("a", "1"), row("b", "")}, []api.Change{row("a", "1"), row("b", "")}},
		"all gone":          {[]api.Change{row("a", "1"), row("b", "")}, nil, []api.Change{gone("a"), gone("b")}},
		"another value":     {[]api.Change{row("a", "1"), row("b", "2")}, []api.Change{row("a", "1"), row("b", "3")}, []api.Change{row("b", "3")}},
		"an empty value":    {[]api.Change{row("a", "1")}, []api.Change{row("a", "")}, []api.Change{row("a", "")}},
		"a first value":     {[]api.Change{row("a", "")}, []api.Change{row("a", "1")}, []api.Change{row("a", "1")}},
		"another key":       {[]api.Change{row("a", "1")}, []api.Change{row("b", "1")}, []api.Change{gone("a"), row("b", "1")}},
		"another key ahead": {[]api.Change{row("b", "1")}, []api.Change{row("a", "1")}, []api.Change{row("a", "1"), gone("b")}},
		"a longer key":      {[]api.Change{row("a", "1")}, []api.Change{row("aa", "1")}, []api.Change{gone("a"), row("aa", "1")}},
		"an empty key":      {[]api.Change{row("", "1")}, []api.Change{row("", "2"), row("\xff", "3")}, []api.Change{row("", "2"), row("\xff", "3")}},
		"in between": {
			[]api.Change{row("a", "1"), row("c", "3"), row("d", "4"), row("f", "6"), row("g", "7")},
			[]api.Change{row("b", "2"), row("c", "3"), row("d", "5"), row("e", "6"), row("g", "7"), row("h", "8")},
			[]api.Change{gone("a"), row("b", "2"), row("d", "5"), row("e", "6"), gone("f"), row("h", "8")},
		},
		"gone at the end": {[]api.Change{row("a", "1"), row("b", "2"), row("c", "3")}, []api.Change{row("b", "2")}, []api.Change{gone("a"), gone("c")}},
	} {
		if got := image.Changes(c.a, c.b); !slices.Equal(got, c.want) {
			t.Errorf("%s: Changes: %v, not %v", name, got, c.want)
		}
	}
}

// scribble over all of a list's memory, what stands behind it too.
func scribble[T any](l []T, v T) {
	l = l[:cap(l)]
	for i := range l {
		l[i] = v
	}
}

// TestZ2: what is handed in is as it was, nothing behind it is read, and an answer shares no memory with it, nor with another answer.
func TestZ2(t *testing.T) {
	bad := api.Change{Key: "bad", Gone: true}
	all := append(rows(farmRows), api.Change{Key: "y", Val: "1"}, bad)
	was := slices.Clone(all)
	l := all[:len(all)-2]
	a, b := l[:len(l)-1:len(l)], l[1:]
	r, err := image.Parse(l)
	again, _ := image.Parse(l)
	if !same(r, farm) || err != nil {
		t.Errorf("Parse sees what stands behind: %v %v", r, err)
	}
	got, changes, same1, same2 := image.Rows(r), image.Changes(a, b), image.Changes(nil, l), image.Changes(nil, l)
	want := slices.Concat([]api.Change{{Key: "h10", Gone: true}}, rows(farmRows)[len(l)-1:])
	if !slices.Equal(changes, want) {
		t.Errorf("Changes sees what stands behind: %v, not %v", changes, want)
	}
	scribble(changes, bad)
	scribble(same1, bad)
	scribble(r.Writs, api.Writ{})
	scribble(r.Things, api.Thing{})
	scribble(r.Held, api.Held{})
	if !slices.Equal(all, was) {
		t.Errorf("rows were written into, or shared: %v, not %v", all, was)
	}
	if !same(again, farm) || !slices.Equal(got, l) || !slices.Equal(same2, l) {
		t.Errorf("two answers share memory: %v, %v, %v", again, got, same2)
	}
}

// TestZ2Rows: a realm whose lists have something behind them has the same rows, and is as it was.
func TestZ2Rows(t *testing.T) {
	r := noisy(t)
	all := api.Realm{
		Writs:  append(slices.Clone(r.Writs), api.Writ{ID: 20, Thing: 2, Rights: 7}, api.Writ{ID: 21, Thing: 20}),
		Things: append(slices.Clone(r.Things), api.Thing{ID: 20, Kind: 1}, api.Thing{ID: 21, Kind: 2}),
		Held:   append(slices.Clone(r.Held), held(4, 0, 20), held(4, 1, 21)),
		Notes:  append(slices.Clone(r.Notes), api.Note{Port: 1, Writ: 20}, api.Note{Port: 3, Writ: 21}),
	}
	was := realm.Copy(all)
	spare := api.Realm{
		Writs: all.Writs[:len(r.Writs)], Things: all.Things[:len(r.Things)], Held: all.Held[:len(r.Held)], Notes: all.Notes[:len(r.Notes)],
		NextWrit: r.NextWrit, NextThing: r.NextThing,
	}
	got, again, want := image.Rows(spare), image.Rows(spare), image.Rows(r)
	if !slices.Equal(got, want) {
		t.Errorf("Rows sees what stands behind: %v, not %v", got, want)
	}
	scribble(got, api.Change{Key: "bad"})
	if !same(all, was) || !slices.Equal(again, want) {
		t.Errorf("Rows: the realm was written into, or an answer is shared: %v, %v", all, again)
	}
}

// TestZ1Ends: also of realms and rows of any kind every call answers.
func TestZ1Ends(t *testing.T) {
	for _, n := range []int{math.MinInt, -1, 0, 10000, math.MaxInt} {
		image.Rows(api.Realm{
			Writs:  []api.Writ{{ID: n, Thing: n, Rights: n, Badge: n, From: n}, {ID: n, From: n}},
			Things: []api.Thing{{ID: n, Kind: n}, {ID: n}}, Held: []api.Held{held(n, n, n), {}},
			Notes: []api.Note{{Port: n, Writ: n, Badge: n}, {}}, NextWrit: n, NextThing: n,
		})
	}
	odd := []api.Change{{Key: "b"}, {Key: "a", Gone: true, Val: "x"}, {Key: "b"}, {}, {Key: strings.Repeat("h", 1000), Val: strings.Repeat("9", 1000)}}
	image.Changes(odd, odd)
	image.Changes(odd, odd[1:])
	for _, c := range odd {
		if r, err := image.Parse([]api.Change{c}); !same(r, api.Realm{}) || err != error(api.ErrText) {
			t.Errorf("Parse(%v): %v %v", c, r, err)
		}
	}
}
