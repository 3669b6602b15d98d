package console_test

import (
	"slices"
	"strconv"
	"strings"
	"sync"
	"testing"

	"writkeep/api"
	"writkeep/console"
)

// errno: how an error is answered.
func errno(e api.Errno) string { return "error " + strconv.Itoa(int(e)) }

// failing lines, behind a farm whose cell is full of hay, and what each is answered.
var failing = []struct {
	line string
	want api.Errno
}{
	{"cell 0 0", api.ErrBound}, {"cell 5 0", api.ErrBound}, {"cell 1 6", api.ErrBound}, {"cell 1 0", api.ErrTaken},
	{"port 0 0", api.ErrBound}, {"port 1 1", api.ErrTaken},
	{"give 5 0 2 1 l 0", api.ErrBound}, {"give 1 5 2 1 l 0", api.ErrNone}, {"give 1 1 2 6 l 0", api.ErrBound}, {"give 1 1 2 0 l 0", api.ErrTaken},
	{"give 2 0 3 1 l 0", api.ErrRight}, {"give 2 0 2 1 a 0", api.ErrRight}, {"give 1 1 3 1 l 100", api.ErrBound}, {"give 2 2 2 5 a 1", api.ErrRight},
	{"move 5 0 1", api.ErrBound}, {"move 1 5 1", api.ErrNone}, {"move 1 0 6", api.ErrBound}, {"move 1 0 1", api.ErrTaken}, {"move 1 0 0", api.ErrTaken},
	{"drop 1 6", api.ErrBound}, {"drop 1 5", api.ErrNone}, {"revoke 9 9", api.ErrBound}, {"revoke 4 0", api.ErrNone},
	{"read 0 1", api.ErrBound}, {"read 2 1", api.ErrNone}, {"read 1 0", api.ErrKind}, {"read 3 0", api.ErrRight},
	{"write 1 999 x", api.ErrBound}, {"write 2 1 x", api.ErrNone}, {"write 1 0 x", api.ErrKind}, {"write 2 0 x", api.ErrRight}, {"write 1 1 123456789", api.ErrMany},
	{"send 5 5 x", api.ErrBound}, {"send 3 3 x", api.ErrNone}, {"send 1 1 x", api.ErrKind}, {"send 2 4 x", api.ErrRight}, {"send 1 0 123456789", api.ErrMany},
	{"send 2 2 x 0 l", api.ErrRight}, {"send 1 0 x 6 l", api.ErrBound}, {"send 1 0 x 5 l", api.ErrNone}, {"send 2 3 x 0 a", api.ErrRight},
	{"take 5 5", api.ErrBound}, {"take 3 3", api.ErrNone}, {"take 1 1", api.ErrKind}, {"take 2 2", api.ErrRight}, {"take 1 0", api.ErrNone},
	{"show 4 6", api.ErrBound}, {"show 4 5", api.ErrNone},
	{"fly", api.ErrText}, {"", api.ErrText}, {strings.Repeat("x", api.MaxLine+1), api.ErrText},
	// Of several errors the one named first.
	{"give 5 0 1 0 lag 999", api.ErrBound}, {"give 1 5 1 0 lag 999", api.ErrNone}, {"give 2 0 1 0 lag 999", api.ErrTaken}, {"give 2 0 3 1 lag 100", api.ErrRight},
	{"give 2 2 2 3 lag 100", api.ErrTaken}, {"give 2 2 2 5 lag 100", api.ErrBound}, {"move 1 5 6", api.ErrNone}, {"read 3 3", api.ErrNone}, {"read 2 2", api.ErrKind},
	{"write 2 0 123456789", api.ErrRight}, {"write 1 0 123456789", api.ErrKind}, {"write 4 0 123456789", api.ErrNone}, {"write 4 6 123456789", api.ErrBound},
	{"send 2 4 123456789", api.ErrRight}, {"send 2 2 123456789 0 lag", api.ErrMany}, {"send 2 2 x 9 lag", api.ErrRight},
	{"give 9 9 9 9 gl 1000", api.ErrText}, {"write 9 9 " + strings.Repeat("x", api.MaxLine), api.ErrText},
}

// many who hold this and that.
var many = []string{
	"port 1 0", "cell 1 1", "write 1 1 hay", "give 1 1 2 0 l 0", "give 1 0 2 2 a 3", "give 1 0 2 3 lag 4", "give 1 0 2 4 l 0", "give 1 1 3 0 ag 0",
}

// TestL2Errors: each error by its number, and nothing is changed.
func TestL2Errors(t *testing.T) {
	want := probe(t, many...)
	for _, c := range failing {
		if a := last(t, behind(many, c.line)...); a != errno(c.want) {
			t.Errorf("%q: %q, not %q", c.line, a, errno(c.want))
		}
		if got := probe(t, behind(many, c.line)...); !slices.Equal(got, want) {
			t.Errorf("%q: then %q, not %q", c.line, got, want)
		}
	}
	for _, line := range []string{"cell 2 1", "port 2 1", "give 1 0 4 0 - 0", "move 1 0 5", "drop 1 0", "revoke 1 0", "write 1 1 x", "send 1 0 x 0 l"} {
		if a := last(t, behind(many, line)...); a != "ok" {
			t.Errorf("%q: %q", line, a)
		}
		if got := probe(t, behind(many, line)...); slices.Equal(got, want) {
			t.Errorf("%q: nothing is changed", line)
		}
	}
}

// TestL2Full: no more than MaxThings things, of places that are free.
func TestL2Full(t *testing.T) {
	var lines []string
	for i := range api.MaxThings {
		lines = append(lines, []string{"cell ", "port "}[i%2]+strconv.Itoa(1+i%4)+" "+strconv.Itoa(i/4))
	}
	for i, a := range run(t, lines...) {
		if a != "ok" {
			t.Errorf("%d: %q", i, a)
		}
	}
	for line, want := range map[string]string{"cell 4 5": "error 9", "port 4 5": "error 9", "cell 1 0": "error 6", "port 5 0": "error 1", "all": "10 10 0"} {
		if a := last(t, behind(lines, line)...); a != want {
			t.Errorf("%q: %q, not %q", line, a, want)
		}
	}
	if a := last(t, behind(lines, "drop 1 0", "cell 4 5")...); a != "ok" {
		t.Errorf("when one is dropped: %q", a)
	}
}

// TestL2Down: what needs the disk, when it fell, is answered by that; what is wrong ahead of it by its own error.
func TestL2Down(t *testing.T) {
	fell := behind(many, "arm 0", "write 1 1 oats")
	if a := last(t, fell...); a != errno(api.ErrDown) {
		t.Errorf("a fall: %q", a)
	}
	for _, line := range []string{"cell 2 1", "port 2 1", "give 1 0 4 0 - 0", "move 1 0 5", "drop 1 0", "revoke 1 0", "write 1 1 x", "send 1 0 x 0 l", "save"} {
		if a := last(t, behind(fell, line)...); a != errno(api.ErrDown) {
			t.Errorf("%q, down: %q", line, a)
		}
	}
	for _, c := range failing {
		if a := last(t, behind(fell, c.line)...); a != errno(c.want) {
			t.Errorf("%q, down: %q, not %q", c.line, a, errno(c.want))
		}
	}
	for _, line := range []string{"arm 5", "restart 7"} {
		if a := last(t, behind(fell, line)...); a != "ok" {
			t.Errorf("%q, down: %q", line, a)
		}
	}
}

// TestZ1: with an error there are no answers; every session ends, with as many answers as lines.
func TestZ1(t *testing.T) {
	if answers, err := console.Run(slices.Repeat([]string{"fly"}, api.MaxLines+1)); answers != nil || err != error(api.ErrMany) {
		t.Errorf("too many lines: %q, %v", answers, err)
	}
	draw := die(120)
	for range 300 {
		lines := make([]string, draw.n(api.MaxLines+1))
		for i := range lines {
			lines[i] = spoilt(&draw, drawn(&draw))
			if draw.n(8) == 0 {
				lines[i] = noise(&draw)
			}
		}
		for i, a := range run(t, lines...) {
			if a == "" || len(a) > api.MaxLine || strings.HasPrefix(a, "error") && len(strings.Split(a, " ")) != 2 {
				t.Errorf("%q: %q", lines[i], a)
			}
		}
	}
}

// noise: any bytes.
func noise(d *die) string {
	b := make([]byte, d.n(api.MaxLine+10))
	for i := range b {
		b[i] = byte(d.n(256))
	}
	return string(b)
}

// TestZ2: lines are not written into, nor is what stands behind them read; answers are the caller's.
func TestZ2(t *testing.T) {
	behindThem := behind(many, "all", "show 1 0", "fly", "read 1 1")
	given := slices.Clone(behindThem)
	n := len(many) + 2
	answers, err := console.Run(given[:n])
	if len(answers) != n || err != nil {
		t.Fatalf("Run: %q, %v", answers, err)
	}
	if !slices.Equal(given, behindThem) {
		t.Errorf("the lines are %q", given)
	}
	want := slices.Clone(answers)
	for i := range given {
		given[i] = "smashed"
	}
	if !slices.Equal(answers, want) {
		t.Errorf("the answers are %q", answers)
	}
	for i := range answers[:cap(answers)] {
		answers[:cap(answers)][i] = "smashed"
	}
	if again := run(t, behindThem[:n]...); !slices.Equal(again, want) {
		t.Errorf("again: %q", again)
	}
}

// TestZ2Alone: what is answered hangs on the lines alone, whatever runs beside.
func TestZ2Alone(t *testing.T) {
	lines := behind(many, "send 1 0 x 1 l", "arm 3", "write 1 1 x", "restart 5", "all", "take 1 0", "show 1 1")
	want := run(t, lines...)
	var all sync.WaitGroup
	for i := range 20 {
		all.Go(func() {
			for range 10 {
				if i%2 == 0 {
					_, _ = console.Run([]string{"cell 1 0", "write 1 0 other", "arm 0"})
				} else if got, err := console.Run(lines); !slices.Equal(got, want) || err != nil {
					t.Errorf("%q, %v, not %q", got, err, want)
				}
			}
		})
	}
	all.Wait()
}
