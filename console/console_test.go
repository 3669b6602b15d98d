package console_test

import (
	"slices"
	"strconv"
	"strings"
	"testing"

	"writkeep/api"
	"writkeep/console"
)

// run lines: as many answers.
func run(t *testing.T, lines ...string) []string {
	t.Helper()
	answers, err := console.Run(lines)
	if err != nil || len(answers) != len(lines) {
		t.Fatalf("Run of %q: %q, %v", lines, answers, err)
	}
	return answers
}

// last: the answer to the last one of lines.
func last(t *testing.T, lines ...string) string {
	t.Helper()
	return run(t, lines...)[len(lines)-1]
}

// told: each line, behind all ahead of it, is answered as it says behind =>.
func told(t *testing.T, session string) {
	t.Helper()
	var lines, want []string
	for _, l := range strings.Split(strings.TrimSpace(session), "\n") {
		line, answer, _ := strings.Cut(l, " => ")
		lines, want = append(lines, line), append(want, answer)
	}
	for i, got := range run(t, lines...) {
		if got != want[i] {
			t.Errorf("%d: %q: %q, not %q", i, lines[i], got, want[i])
		}
	}
}

// farm: a port at 1 0, and a cell at 1 1.
var farm = []string{"port 1 0", "cell 1 1"}

// behind some lines, others.
func behind(ahead []string, lines ...string) []string {
	return append(slices.Clone(ahead), lines...)
}

// TestL1Session: the document's example.
func TestL1Session(t *testing.T) {
	told(t, `
port 1 0 => ok
cell 1 1 => ok
write 1 1 hay => ok
give 1 0 2 0 a 7 => ok
give 1 1 2 1 lg 0 => ok
show 1 1 => 2 of 2 lag badge 0 from 0 beneath 1
read 2 1 => hay
write 2 1 x => error 7
give 2 1 3 1 l 0 => ok
give 2 0 3 0 a 0 => error 7
give 2 1 3 2 la 0 => error 7
read 3 1 => hay
send 2 0 hi => ok
take 1 0 => hi badge 7 slot -1
send 1 0 with 1 l => ok
take 1 0 => with badge 0 slot 2
show 1 2 => 6 of 2 l badge 0 from 2 beneath 0
revoke 1 1 => ok
read 2 1 => error 5
show 1 2 => error 5
all => 3 2 0
cell 2 2 => ok
write 2 2 oats => ok
give 1 0 3 0 lag 3 => ok
send 3 0 a => ok
send 3 0 b => ok
send 3 0 c => ok
send 3 0 d => error 9
take 1 0 => a badge 3 slot -1
show 1 0 => 1 of 1 lag badge 0 from 0 beneath 2
drop 1 0 => ok
show 3 0 => 8 of 1 lag badge 3 from 0 beneath 0
take 3 0 => b badge 3 slot -1
move 3 0 5 => ok
show 3 5 => 8 of 1 lag badge 3 from 0 beneath 0
move 3 5 5 => error 6
give 3 5 3 0 lag 4 => error 7
give 3 5 3 0 lag 3 => ok
save => ok
restart 0 => ok
all => 5 3 0
take 3 5 => error 5
read 2 2 => oats
drop 2 2 => ok
read 2 2 => error 5
give 1 9 2 0 l 0 => error 1
give 1 1 2 0 gl 0 => error 4
port 9 0 => error 1
cell 3 0 => error 6
revoke 3 5 => ok
show 3 0 => error 5
all => 3 2 0
fly high => error 4`)
}

// TestL1Things: cell and port, and what tells them apart.
func TestL1Things(t *testing.T) {
	told(t, `
all => 0 0 0
cell 4 5 => ok
show 4 5 => 1 of 1 lag badge 0 from 0 beneath 0
port 1 0 => ok
show 1 0 => 2 of 2 lag badge 0 from 0 beneath 0
all => 2 2 0
read 4 5 => -
take 4 5 => error 8
send 4 5 x => error 8
read 1 0 => error 8
write 1 0 x => error 8
take 1 0 => error 5
write 4 5 x => ok
read 4 5 => x
write 4 5 - => ok
read 4 5 => -
save => ok
read 4 5 => -`)
}

// TestL1Give: which place, rights and badge is which.
func TestL1Give(t *testing.T) {
	told(t, `
cell 1 2 => ok
give 1 2 3 4 l 5 => ok
show 3 4 => 2 of 1 l badge 5 from 1 beneath 0
give 1 2 4 3 ag 99 => ok
show 4 3 => 3 of 1 ag badge 99 from 1 beneath 0
give 4 3 2 1 - 0 => ok
show 2 1 => 4 of 1 - badge 99 from 3 beneath 0
give 4 3 4 4 a 99 => ok
show 1 2 => 1 of 1 lag badge 0 from 0 beneath 4
show 4 3 => 3 of 1 ag badge 99 from 1 beneath 2
give 3 4 3 5 l 5 => ok
give 3 4 2 5 l 5 => error 7
give 1 2 2 0 l 100 => error 1
all => 6 1 0`)
}

// TestL1MoveDropRevoke: which place is which, and what is left of what was made.
func TestL1MoveDropRevoke(t *testing.T) {
	told(t, `
cell 1 2 => ok
give 1 2 2 3 lag 0 => ok
give 2 3 3 4 lag 0 => ok
move 2 3 5 => ok
show 2 3 => error 5
show 2 5 => 2 of 1 lag badge 0 from 1 beneath 1
move 2 5 6 => error 1
move 2 3 0 => error 5
drop 2 5 => ok
show 2 5 => error 5
show 3 4 => 3 of 1 lag badge 0 from 1 beneath 0
give 3 4 4 0 l 0 => ok
revoke 3 4 => ok
show 3 4 => 3 of 1 lag badge 0 from 1 beneath 0
show 4 0 => error 5
revoke 1 2 => ok
show 3 4 => error 5
all => 1 1 0
drop 1 2 => ok
drop 1 2 => error 5
revoke 1 2 => error 5
all => 0 0 0`)
}

// TestL1Notes: without a writ, and with one; which slot, rights and badge is which.
func TestL1Notes(t *testing.T) {
	told(t, `
port 1 0 => ok
cell 2 3 => ok
give 1 0 2 1 lag 7 => ok
send 2 1 one => ok
send 2 1 two 3 lg => ok
send 1 0 - 0 - => ok
all => 5 2 3
send 1 0 four => error 9
show 2 3 => 2 of 2 lag badge 0 from 0 beneath 1
take 1 0 => one badge 7 slot -1
take 1 0 => two badge 7 slot 1
show 1 1 => 4 of 2 lg badge 0 from 2 beneath 0
take 2 1 => - badge 0 slot 0
show 2 0 => 5 of 1 - badge 0 from 1 beneath 0
all => 5 2 0
take 1 0 => error 5
send 2 1 x 4 l => error 5
send 2 1 x 6 l => error 1
send 2 1 x 999 l => error 1
give 2 1 3 0 a 0 => ok
send 3 0 x => ok
send 3 0 x 0 - => error 7
send 2 1 x 1 - => ok
send 2 0 x => error 7
send 2 1 x 0 l => error 7
send 2 1 x 3 g => ok
send 2 1 x 3 g => error 9
take 1 0 => x badge 7 slot -1
take 1 0 => x badge 7 slot 2
show 1 2 => 7 of 1 - badge 7 from 3 beneath 0`)
}

// TestL1TakeFull: a note whose writ finds no slot waits on.
func TestL1TakeFull(t *testing.T) {
	told(t, `
port 1 0 => ok
cell 1 1 => ok
cell 1 2 => ok
cell 1 3 => ok
cell 1 4 => ok
send 1 0 hay 1 l => ok
cell 1 5 => ok
take 1 0 => error 9
all => 7 6 1
drop 1 3 => ok
take 1 0 => hay badge 0 slot 3
all => 6 5 0`)
}

// TestL1Saved: what is saved is there, what waits too; when it is opened anew, nothing waits.
func TestL1Saved(t *testing.T) {
	told(t, `
port 1 0 => ok
cell 1 1 => ok
write 1 1 hay => ok
send 1 0 a => ok
send 1 0 b 1 l => ok
save => ok
all => 3 2 2
take 1 0 => a badge 0 slot -1
restart 999 => ok
all => 2 2 0
take 1 0 => error 5
read 1 1 => hay
cell 1 2 => ok
show 1 2 => 4 of 3 lag badge 0 from 0 beneath 0
restart 0 => ok
save => ok
restart 0 => ok
save => ok
show 1 2 => 4 of 3 lag badge 0 from 0 beneath 0
all => 3 3 0`)
}

// TestL1Long: a session whose log is full more than once.
func TestL1Long(t *testing.T) {
	lines := []string{"cell 1 0"}
	for i := range (api.MaxLines - 2) / 2 {
		lines = append(lines, "give 1 0 2 0 lag "+strconv.Itoa(i), "revoke 1 0")
	}
	for i, a := range run(t, append(lines, "restart 0")...) {
		if a != "ok" {
			t.Errorf("%d: %q", i, a)
		}
	}
	if a := last(t, append(lines, "all")...); a != "1 1 0" {
		t.Errorf("all: %q", a)
	}
}

// TestL1Lines: MaxLines, one more, and none.
func TestL1Lines(t *testing.T) {
	for _, line := range []string{"all", "", "fly", "arm 0"} {
		lines := slices.Repeat([]string{line}, api.MaxLines)
		run(t, lines...)
		for _, many := range []int{api.MaxLines + 1, 2 * api.MaxLines, 5000} {
			answers, err := console.Run(slices.Repeat([]string{line}, many))
			if len(answers) != 0 || err != error(api.ErrMany) {
				t.Errorf("%d lines: %q, %v", many, answers, err)
			}
		}
	}
	for _, none := range [][]string{nil, {}} {
		if answers, err := console.Run(none); len(answers) != 0 || err != nil {
			t.Errorf("no lines: %q, %v", answers, err)
		}
	}
}

// TestL1Anew: sessions know nothing of each other.
func TestL1Anew(t *testing.T) {
	for range 3 {
		told(t, "all => 0 0 0\ncell 1 0 => ok\nwrite 1 0 hay => ok\nshow 1 0 => 1 of 1 lag badge 0 from 0 beneath 0\narm 0 => ok")
	}
}
