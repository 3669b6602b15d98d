package row_test

import (
	"maps"
	"slices"
	"strings"
	"testing"

	"writkeep/api"
	"writkeep/row"
)

// die: numbers that look drawn, the same each time.
type die uint64

func (d *die) n(most int) int {
	*d = *d*6364136223846793005 + 1442695040888963407
	return int(uint64(*d>>33) % uint64(most))
}

func long(n int) string { return strings.Repeat("k", n) }

// checks: changes, and what Check says of them.
var checks = []struct {
	c    api.Change
	want error
}{
	{api.Change{Key: "a"}, nil},
	{api.Change{Key: "a", Val: "v"}, nil},
	{api.Change{Key: "a", Gone: true}, nil},
	{api.Change{Key: "\x00", Val: "\x00\xff"}, nil},
	{api.Change{Key: long(api.MaxKey), Val: long(api.MaxVal)}, nil},
	{api.Change{Key: long(api.MaxKey), Gone: true}, nil},
	{api.Change{}, api.ErrShape},
	{api.Change{Val: "v"}, api.ErrShape},
	{api.Change{Gone: true}, api.ErrShape},
	{api.Change{Val: "v", Gone: true}, api.ErrShape},
	{api.Change{Key: "a", Val: "v", Gone: true}, api.ErrShape},
	{api.Change{Key: "a", Val: "\x00", Gone: true}, api.ErrShape},
	{api.Change{Key: long(api.MaxKey + 1)}, api.ErrMany},
	{api.Change{Key: long(api.MaxKey + 1), Gone: true}, api.ErrMany},
	{api.Change{Key: "a", Val: long(api.MaxVal + 1)}, api.ErrMany},
	{api.Change{Key: long(300), Val: long(300)}, api.ErrMany},
	{api.Change{Key: long(256)}, api.ErrMany},
	// Several apply: the one named first is told.
	{api.Change{Val: long(api.MaxVal + 1)}, api.ErrShape},
	{api.Change{Key: long(api.MaxKey + 1), Val: "v", Gone: true}, api.ErrShape},
	{api.Change{Key: "a", Val: long(api.MaxVal + 1), Gone: true}, api.ErrShape},
}

func TestH1Check(t *testing.T) {
	for _, c := range checks {
		if err := row.Check(c.c); err != c.want {
			t.Errorf("Check(%#v) = %v, not %v", c.c, err, c.want)
		}
	}
}

// TestH2Wrong: Check's error, and nothing beside it.
func TestH2Wrong(t *testing.T) {
	for _, c := range checks {
		s, err := row.Bytes(c.c)
		if err != c.want || (s == "") != (err != nil) {
			t.Errorf("Bytes(%#v) = %#v, %v, not %v", c.c, s, err, c.want)
		}
	}
}

func TestH2Bytes(t *testing.T) {
	for want, c := range map[string]api.Change{
		"\x00\x01a":               {Key: "a"},
		"\x00\x01ab":              {Key: "a", Val: "b"},
		"\x00\x02ab":              {Key: "ab"},
		"\x01\x02ab":              {Key: "ab", Gone: true},
		"\x00\x05w00010001":       {Key: "w0001", Val: "0001"},
		"\x00\x02\x00\x01\xff\n ": {Key: "\x00\x01", Val: "\xff\n "},
		"\x00\x08" + long(32):     {Key: long(8), Val: long(24)},
		"\x01\x08" + long(8):      {Key: long(8), Gone: true},
	} {
		if s, err := row.Bytes(c); s != want || err != nil {
			t.Errorf("Bytes(%#v) = %#v, %v, not %#v", c, s, err, want)
		}
		if got, err := row.Parse(want); got != c || err != nil {
			t.Errorf("Parse(%#v) = %#v, %v, not %#v", want, got, err, c)
		}
	}
}

// noBytes: the text must be no change's.
func noBytes(t *testing.T, s string) {
	t.Helper()
	if c, err := row.Parse(s); err != error(api.ErrText) || c != (api.Change{}) {
		t.Errorf("Parse(%#v) = %#v, %v", s, c, err)
	}
}

func TestH2ParseWrong(t *testing.T) {
	for _, s := range []string{
		"", "\x00", "\x01", "\x00\x00", "\x01\x00", "\x00\x00a", "\x01\x00a", "\x00\x01", "\x00\x02a", "\x00\xffa",
		"\x02\x01a", "\xff\x01a", "0\x01a", "\x01\x01ab", "\x01\x01a\x00", "a",
		"\x00\x09" + long(9), "\x00\x09" + long(8), "\x01\x09" + long(9), "\x00\x08" + long(33), "\x00\x01" + long(26), "\x01\x08" + long(9),
		"\x00\xff" + long(255), "\x00\x80" + long(300), long(5000),
	} {
		noBytes(t, s)
	}
}

// TestH2Short goes over all texts of few bytes: just those that are a change's Bytes are read, as that change.
func TestH2Short(t *testing.T) {
	letters := []string{"\x00", "\x01", "\x02", "\x03", "a"}
	texts := []string{""}
	for first := 0; len(texts) < 4000; {
		end := len(texts)
		for _, s := range texts[first:end] {
			for _, l := range letters {
				texts = append(texts, s+l)
			}
		}
		first = end
	}
	bytes := map[string]api.Change{}
	for _, key := range texts {
		for _, val := range texts {
			for _, gone := range []bool{false, true} {
				if len(key)+len(val) > 5 {
					continue
				}
				c := api.Change{Key: key, Val: val, Gone: gone}
				if s, err := row.Bytes(c); err == nil {
					if _, is := bytes[s]; is {
						t.Fatalf("Bytes %q of two", s)
					}
					bytes[s] = c
				}
			}
		}
	}
	read := 0
	for _, s := range texts {
		c, is := bytes[s]
		if !is {
			noBytes(t, s)
			continue
		}
		read++
		if got, err := row.Parse(s); got != c || err != nil {
			t.Errorf("Parse(%#v) = %#v, %v", s, got, err)
		}
	}
	if read < 100 {
		t.Errorf("just %d texts are Bytes", read)
	}
}

// TestH2Drawn: bytes with some altered are read as the change whose Bytes they are, or not at all.
func TestH2Drawn(t *testing.T) {
	d := die(8)
	for range 20000 {
		c := api.Change{Key: long(1 + d.n(8)), Val: long(d.n(25))}
		if d.n(3) == 0 {
			c = api.Change{Key: c.Key, Gone: true}
		}
		s, err := row.Bytes(c)
		if err != nil {
			t.Fatalf("Bytes(%#v): %v", c, err)
		}
		if got, err := row.Parse(s); got != c || err != nil {
			t.Fatalf("Parse(%#v) = %#v, %v", s, got, err)
		}
		b := []byte(s)
		b[d.n(min(3, len(b)))] = byte(d.n(12))
		u := string(b[:len(b)-d.n(2)]) + long(d.n(3))
		got, err := row.Parse(u)
		if err != nil {
			noBytes(t, u)
		} else if again, err := row.Bytes(got); again != u || err != nil {
			t.Errorf("Parse(%#v) = %#v, and its Bytes are %#v, %v", u, got, again, err)
		}
	}
}

func TestH3Apply(t *testing.T) {
	l := func(c ...api.Change) []api.Change { return c }
	is := func(key, val string) api.Change { return api.Change{Key: key, Val: val} }
	gone := func(key string) api.Change { return api.Change{Key: key, Gone: true} }
	rows := l(is("b", "1"), is("d", "2"), is("f", "3"))
	for _, c := range []struct{ rows, changes, want []api.Change }{
		{nil, nil, nil},
		{rows, nil, rows},
		{nil, l(is("x", "1")), l(is("x", "1"))},
		{rows, l(is("a", "0")), l(is("a", "0"), is("b", "1"), is("d", "2"), is("f", "3"))},
		{rows, l(is("c", "0")), l(is("b", "1"), is("c", "0"), is("d", "2"), is("f", "3"))},
		{rows, l(is("g", "0")), l(is("b", "1"), is("d", "2"), is("f", "3"), is("g", "0"))},
		{rows, l(is("d", "0")), l(is("b", "1"), is("d", "0"), is("f", "3"))},
		{rows, l(is("d", "")), l(is("b", "1"), is("d", ""), is("f", "3"))},
		{rows, l(gone("b")), l(is("d", "2"), is("f", "3"))},
		{rows, l(gone("f")), l(is("b", "1"), is("d", "2"))},
		{rows, l(gone("c")), rows},
		{nil, l(gone("c")), nil},
		{rows, l(gone("b"), gone("d"), gone("f")), nil},
		{rows, l(gone("b"), gone("b")), l(is("d", "2"), is("f", "3"))},
		{rows, l(is("c", "4"), gone("c")), rows},
		{rows, l(gone("d"), is("d", "5")), l(is("b", "1"), is("d", "5"), is("f", "3"))},
		{rows, l(is("d", "4"), is("d", "5")), l(is("b", "1"), is("d", "5"), is("f", "3"))},
		{nil, l(is("z", "1"), is("", "2"), is("a", "3"), is("aa", "4")), l(is("", "2"), is("a", "3"), is("aa", "4"), is("z", "1"))},
		{nil, l(is("\xff", "1"), is("\x00", "2"), is("~", "3")), l(is("\x00", "2"), is("~", "3"), is("\xff", "1"))},
	} {
		if got := row.Apply(c.rows, c.changes); !slices.Equal(got, c.want) {
			t.Errorf("Apply(%#v, %#v) = %#v, not %#v", c.rows, c.changes, got, c.want)
		}
	}
}

// changeOf few keys, so that they meet.
func changeOf(d *die) api.Change {
	c := api.Change{Key: string(rune('a' + d.n(12)))}
	if c.Gone = d.n(3) == 0; !c.Gone {
		c.Val = long(d.n(4))
	}
	return c
}

// TestH3Drawn: what rows and changes come to is what a map of them would.
func TestH3Drawn(t *testing.T) {
	d := die(9)
	for range 3000 {
		is := map[string]string{}
		var rows, changes []api.Change
		for range d.n(12) {
			is[string(rune('a'+d.n(12)))] = long(d.n(4))
		}
		for _, key := range slices.Sorted(maps.Keys(is)) {
			rows = append(rows, api.Change{Key: key, Val: is[key]})
		}
		for range d.n(20) {
			c := changeOf(&d)
			changes = append(changes, c)
			if is[c.Key] = c.Val; c.Gone {
				delete(is, c.Key)
			}
		}
		var want []api.Change
		for _, key := range slices.Sorted(maps.Keys(is)) {
			want = append(want, api.Change{Key: key, Val: is[key]})
		}
		if got := row.Apply(rows, changes); !slices.Equal(got, want) {
			t.Fatalf("Apply(%#v, %#v) = %#v, not %#v", rows, changes, got, want)
		}
	}
}

// TestZ1Ends: also with rows that don't rise, and changes that may not be.
func TestZ1Ends(t *testing.T) {
	d := die(10)
	for range 2000 {
		var rows, changes []api.Change
		for range d.n(6) {
			rows = append(rows, api.Change{Key: long(d.n(12)), Val: long(d.n(30)), Gone: d.n(2) == 0})
		}
		for range d.n(6) {
			changes = append(changes, api.Change{Key: long(d.n(12)), Val: long(d.n(30)), Gone: d.n(2) == 0})
		}
		row.Apply(rows, changes)
	}
}

// TestZ2: lists that are handed in are as they were, with what stands behind them, and the answer is the caller's own.
func TestZ2(t *testing.T) {
	d := die(11)
	for range 2000 {
		var rows, changes []api.Change
		for i := range d.n(8) {
			rows = append(rows, api.Change{Key: string(rune('a' + i)), Val: "v"})
		}
		for range d.n(8) {
			changes = append(changes, changeOf(&d))
		}
		want := row.Apply(rows, changes)
		behind := []api.Change{{Key: "behind", Val: "it"}, {Key: "a", Val: "hid"}, {Key: "b", Gone: true}}
		a, b := append(slices.Clip(rows), behind...), append(slices.Clip(changes), behind...)
		was, is := slices.Clone(a), slices.Clone(b)
		got := row.Apply(a[:len(rows)], b[:len(changes)])
		if !slices.Equal(got, want) {
			t.Fatalf("Apply reads what stands behind: %#v, not %#v", got, want)
		}
		got = got[:cap(got)]
		for i := range got {
			got[i] = api.Change{Key: "mine"}
		}
		if !slices.Equal(a, was) || !slices.Equal(b, is) {
			t.Fatalf("Apply writes into, or shares, %#v or %#v", a, b)
		}
		if again := row.Apply(rows, changes); !slices.Equal(again, want) {
			t.Fatalf("Apply answers %#v, then %#v", want, again)
		}
	}
}
