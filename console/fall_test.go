package console_test

import (
	"slices"
	"strconv"
	"testing"

	"writkeep/api"
	"writkeep/disk"
	"writkeep/keep"
	"writkeep/realm"
)

// eyes: lines that tell all that is to be seen.
func eyes() []string {
	l := []string{"all"}
	for holder := 1; holder <= api.MaxHolder; holder++ {
		for slot := range api.MaxSlot + 1 {
			l = append(l, "show "+strconv.Itoa(holder)+" "+strconv.Itoa(slot))
		}
	}
	// Who may look at a cell, if anybody may, is mostly one of these.
	for _, p := range []string{"1 0", "1 1", "1 2", "1 3", "2 0", "2 1", "2 2", "3 0"} {
		l = append(l, "read "+p)
	}
	return l
}

// probe: what is to be seen behind lines.
func probe(t *testing.T, lines ...string) []string {
	t.Helper()
	return run(t, append(slices.Clone(lines), eyes()...)...)[len(lines):]
}

func arm(step int) string       { return "arm " + strconv.Itoa(step) }
func restart(keep int) string   { return "restart " + strconv.Itoa(keep) }
func down() string              { return errno(api.ErrDown) }
func quiet(l []string) []string { return behind(l, "restart 0") }

// keeps: of what wasn't flushed none, the first ones, single ones, this and that.
var keeps = []int{0, 1, 2, 3, 4, 5, 6, 7, 8, 15, 16, 32, 63, 64, 128, 256, 510, 511, 512, 990, 998, 999}

// doings: behind lines another one, that takes steps.
var doings = []struct {
	name  string
	ahead []string
	line  string
}{
	{"a cell", nil, "cell 1 0"},
	{"a port", many, "port 1 2"},
	{"a gift", many, "give 1 1 1 2 lag 9"},
	{"a move", many, "move 1 1 2"},
	{"a drop", many, "drop 1 1"},
	{"a last drop", behind(many, "revoke 1 1"), "drop 1 1"},
	{"a revocation", many, "revoke 1 1"},
	{"a greater one", many, "revoke 1 0"},
	{"a write", many, "write 1 1 oats"},
	{"a note", many, "send 1 0 hay 1 l"},
	{"a note that is taken", behind(many, "send 1 0 hay 1 l"), "take 1 0"},
	{"a save", many, "save"},
	{"a save of what waits", behind(many, "save", "write 1 1 oats", "send 1 0 x"), "save"},
	{"a full log", fullLog(), "write 1 0 oats"},
}

// fullLog: so many changes that one more has no room but behind a checkpoint.
func fullLog() []string {
	l := []string{"cell 1 0"}
	for range 12 {
		l = append(l, "give 1 0 2 0 lag 0", "revoke 1 0")
	}
	for i := range 3 {
		l = append(l, "write 1 0 "+strconv.Itoa(i))
	}
	return l
}

// TestL1Falls: a fall at every step of what is being done: opened anew, all is as it was, or as it would have become.
func TestL1Falls(t *testing.T) {
	took := map[string]int{}
	for _, c := range doings {
		was, next := probe(t, quiet(c.ahead)...), probe(t, quiet(behind(c.ahead, c.line))...)
		step, fell := 0, true
		for ; fell; step++ {
			for _, keep := range keeps {
				lines := behind(c.ahead, arm(step), c.line, restart(keep))
				answers := run(t, lines...)
				fell = answers[len(c.ahead)+1] == down()
				got := probe(t, lines...)
				if !slices.Equal(got, next) && !(fell && slices.Equal(got, was)) {
					t.Fatalf("%s, step %d, keep %d, fell %v: %q, neither %q nor %q", c.name, step, keep, fell, got, was, next)
				}
			}
		}
		took[c.name] = step
	}
	if took["a full log"] <= took["a write"] {
		t.Errorf("no checkpoint is ahead of a write to a full log: %v", took)
	}
}

// TestL1FallsAgain: behind a fall, and another one, what is done then is done.
func TestL1FallsAgain(t *testing.T) {
	want := probe(t, quiet(behind(many, "write 1 1 oats", "revoke 1 1"))...)
	for first := range 9 {
		for second := range 12 {
			for _, keep := range []int{0, 1, 2, 3, 6, 999} {
				lines := behind(many, arm(first), "write 1 1 oats", restart(keep), arm(second), "revoke 1 1", restart(keep), "write 1 1 oats", "revoke 1 1", "restart 0")
				if got := probe(t, lines...); !slices.Equal(got, want) {
					t.Fatalf("steps %d and %d, keep %d: %q, not %q", first, second, keep, got, want)
				}
			}
		}
	}
}

// steps that a deed takes on a realm behind another one.
func steps(t *testing.T, ahead, deed func(r api.Realm) (api.Realm, error)) int {
	t.Helper()
	for n := 0; ; n++ {
		d, err := disk.New(api.Sectors)
		if err != nil || keep.Format(d) != nil {
			t.Fatal("no disk")
		}
		k, err := keep.Open(d)
		if err != nil || k.Do(ahead) != nil {
			t.Fatal("no keep")
		}
		d.Arm(n)
		if k.Do(deed) == nil {
			return n
		}
	}
}

// TestL1Arm: so many steps are left, not one more, and not one less; what takes none goes on.
func TestL1Arm(t *testing.T) {
	p := api.Place{Holder: 1, Slot: 0}
	n := steps(t, func(r api.Realm) (api.Realm, error) { return realm.Make(r, p, api.Cell) },
		func(r api.Realm) (api.Realm, error) { return realm.Write(r, p, "hay") })
	for step := range n + 3 {
		want := "ok"
		if step < n {
			want = down()
		}
		if a := last(t, "cell 1 0", arm(step), "all", "show 1 0", "read 1 0", "write 1 0 hay"); a != want {
			t.Errorf("a write of %d steps, with %d left: %q", n, step, a)
		}
	}
	told(t, `
cell 1 0 => ok
port 1 1 => ok
arm 0 => ok
all => 2 2 0
show 1 0 => 1 of 1 lag badge 0 from 0 beneath 0
read 1 0 => -
fly => error 4
cell 1 0 => error 6
arm 999 => ok
write 1 0 hay => ok
arm 0 => ok
restart 0 => ok
write 1 0 oats => ok
arm 0 => ok
write 1 0 x => error 10
arm 999 => ok
write 1 0 x => error 10
restart 0 => ok
read 1 0 => oats
write 1 0 y => ok
read 1 0 => y`)
}

// TestL1RestartKeeps: which of what wasn't flushed is kept is told by the number's bits.
func TestL1RestartKeeps(t *testing.T) {
	ahead := []string{"cell 1 0", "write 1 0 hay"}
	final := 0
	for last(t, behind(ahead, arm(final+1), "write 1 0 oats")...) == down() {
		final++
	}
	// At the last step, a flush, both sectors of the deed are written.
	for keep, want := range map[int]string{0: "hay", 1: "hay", 2: "hay", 3: "oats", 4: "hay", 7: "oats", 996: "hay", 998: "hay", 999: "oats"} {
		if a := last(t, behind(ahead, arm(final), "write 1 0 oats", restart(keep), "read 1 0")...); a != want {
			t.Errorf("restart %d: %q, not %q", keep, a, want)
		}
	}
}

// TestL1Down: each line is answered, behind a fall too, and nothing of what was done then is there when it is opened anew.
func TestL1Down(t *testing.T) {
	fell := behind(many, "arm 0", "drop 1 1")
	want := probe(t, quiet(many)...)
	lines := slices.Clone(fell)
	for _, line := range good {
		if line != "restart 0" {
			lines = append(lines, line)
		}
	}
	if got := probe(t, quiet(lines)...); !slices.Equal(got, want) {
		t.Errorf("%q, not %q", got, want)
	}
}

// TestW6Drawn: drawn sessions, with falls at drawn steps: each line is done as a whole, or not at all.
func TestW6Drawn(t *testing.T) {
	draw := die(121)
	for range 200 {
		ahead := behind(many)
		for range draw.n(12) {
			ahead = append(ahead, drawn(&draw))
		}
		for range 6 {
			line, keep := drawn(&draw), keeps[draw.n(len(keeps))]
			was, next := probe(t, quiet(ahead)...), probe(t, quiet(behind(ahead, line))...)
			ahead = behind(ahead, arm(draw.n(12)), line, restart(keep))
			if got := probe(t, ahead...); !slices.Equal(got, was) && !slices.Equal(got, next) {
				t.Fatalf("behind %q: %q, neither %q nor %q", ahead, got, was, next)
			}
		}
	}
}
