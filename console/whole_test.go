package console_test

import (
	"fmt"
	"slices"
	"strconv"
	"strings"
	"testing"

	"writkeep/api"
	"writkeep/right"
)

// places, all of them, as words.
func places() []string {
	var l []string
	for holder := 1; holder <= api.MaxHolder; holder++ {
		for slot := range api.MaxSlot + 1 {
			l = append(l, fmt.Sprint(holder, " ", slot))
		}
	}
	return l
}

// seen: which writ is at which place, as show tells it, behind lines.
func seen(t *testing.T, lines ...string) map[string]api.Writ {
	t.Helper()
	l := slices.Clone(lines)
	for _, p := range places() {
		l = append(l, "show "+p)
	}
	out := map[string]api.Writ{}
	for i, a := range run(t, l...)[len(lines):] {
		if a == errno(api.ErrNone) {
			continue
		}
		var w api.Writ
		var rights string
		var beneath int
		if _, err := fmt.Sscanf(a, "%d of %d %s badge %d from %d beneath %d", &w.ID, &w.Thing, &rights, &w.Badge, &w.From, &beneath); err != nil {
			t.Fatalf("show: %q", a)
		}
		w.Rights, _ = right.Parse(rights)
		out[places()[i]] = w
	}
	return out
}

// byNumber: all that are seen.
func byNumber(l map[string]api.Writ) map[int]api.Writ {
	out := map[int]api.Writ{}
	for _, w := range l {
		out[w.ID] = w
	}
	return out
}

// session that is drawn, of so many lines behind many; it ends with nothing that waits.
func session(d *die, n int) []string {
	l := slices.Clone(many)
	for range n {
		l = append(l, drawn(d))
	}
	return quiet(l)
}

// TestW1W5Drawn: nobody has more than what his was made of; each writ is at one place, and things are just those of writs.
func TestW1W5Drawn(t *testing.T) {
	draw := die(123)
	for range 400 {
		lines := session(&draw, draw.n(40))
		l := seen(t, lines...)
		all := byNumber(l)
		things := map[int]bool{}
		for _, w := range all {
			things[w.Thing] = true
			if w.From == 0 {
				continue
			}
			above, is := all[w.From]
			if !is || above.Thing != w.Thing || w.Rights&^above.Rights != 0 || above.Badge != 0 && above.Badge != w.Badge {
				t.Fatalf("W1: behind %q: %v of %v", lines, w, above)
			}
		}
		if want, got := fmt.Sprint(len(l), " ", len(things), " 0"), last(t, append(lines, "all")...); len(all) != len(l) || got != want {
			t.Fatalf("W5: behind %q: %q, not %q: %v", lines, got, want, l)
		}
	}
}

// made: was a writ made of another one, at any remove?
func made(all map[int]api.Writ, w api.Writ, of int) bool {
	for w.From != 0 {
		if w.From == of {
			return true
		}
		w = all[w.From]
	}
	return false
}

// TestW2Drawn: of what is revoked nothing is there, also in notes, also when it is opened anew; all else is.
func TestW2Drawn(t *testing.T) {
	draw := die(124)
	for range 150 {
		lines := session(&draw, draw.n(25))
		waiting := lines[:len(lines)-1]
		for p := range seen(t, waiting...) {
			if a := last(t, behind(waiting, "revoke "+p, "show "+p)...); !strings.HasSuffix(a, " beneath 0") {
				t.Fatalf("W2: behind %q: revoke %s: %q", waiting, p, a)
			}
		}
		before := seen(t, lines...)
		all := byNumber(before)
		for p, root := range before {
			after := seen(t, behind(lines, "revoke "+p, "restart 0")...)
			for q, w := range before {
				if _, is := after[q]; is == made(all, w, root.ID) {
					t.Fatalf("W2: behind %q: revoke %s: at %s: %v", lines, p, q, is)
				}
			}
		}
	}
	told(t, `
port 1 0 => ok
cell 1 1 => ok
give 1 1 2 0 lag 0 => ok
give 1 0 2 1 lag 0 => ok
send 2 1 hay 0 lg => ok
show 1 1 => 2 of 2 lag badge 0 from 0 beneath 2
revoke 1 1 => ok
show 1 1 => 2 of 2 lag badge 0 from 0 beneath 0
all => 3 2 1
take 1 0 => hay badge 0 slot -1
restart 0 => ok
show 2 0 => error 5`)
}

// TestW3Drawn: but for a gift to another one, nothing gets to another one's places.
func TestW3Drawn(t *testing.T) {
	draw := die(125)
	for range 250 {
		lines := slices.Clone(many)
		for range draw.n(30) {
			lines = append(lines, drawn(&draw))
		}
		before := seen(t, lines...)
		for range 4 {
			line := drawn(&draw)
			words := append(strings.Fields(line), "", "", "", "")
			if words[0] == "give" && words[1] != words[3] {
				continue
			}
			for p, w := range seen(t, behind(lines, line)...) {
				if !strings.HasPrefix(p, words[1]+" ") && before[p].ID != w.ID {
					t.Fatalf("W3: behind %q: %q: at %s: %v", lines, line, p, w)
				}
			}
		}
	}
}

// TestW4Drawn: just who may look reads and takes, just who may alter writes and sends.
func TestW4Drawn(t *testing.T) {
	draw := die(126)
	for range 200 {
		lines := session(&draw, draw.n(30))
		at := seen(t, lines...)
		for _, p := range places() {
			w, is := at[p]
			look, alter := is && w.Rights&api.Look != 0, is && w.Rights&api.Alter != 0
			answers := run(t, behind(lines, "read "+p, "take "+p, "write "+p+" x", "send "+p+" x")...)[len(lines):]
			for i, may := range []bool{look, look, alter, alter} {
				refusal := answers[i] == errno(api.ErrRight) || answers[i] == errno(api.ErrKind) || !is && answers[i] == errno(api.ErrNone)
				if !may && !refusal || may && answers[i] == errno(api.ErrRight) {
					t.Fatalf("W4: behind %q: at %s, %v: %q", lines, p, w, answers)
				}
			}
		}
	}
}

// TestW4Order: notes are taken in order, port by port, with the badge of who sent.
func TestW4Order(t *testing.T) {
	lines := []string{"port 1 0", "port 1 1", "give 1 0 2 0 a 12", "give 1 0 3 0 a 13", "give 1 1 2 1 a 22", "give 1 1 3 1 a 23"}
	draw := die(127)
	for range 60 {
		var queues [2][]string
		l := slices.Clone(lines)
		var want []string
		for range lines {
			want = append(want, "ok")
		}
		for i := range 30 {
			port, data := draw.n(2), "n"+strconv.Itoa(i)
			if q := queues[port]; draw.n(2) == 0 {
				l = append(l, fmt.Sprint("take 1 ", port))
				if len(q) == 0 {
					want = append(want, errno(api.ErrNone))
				} else {
					want, queues[port] = append(want, q[0]), q[1:]
				}
				continue
			}
			who := 1 + draw.n(3)
			l = append(l, fmt.Sprint("send ", who, " ", port, " ", data))
			if len(queues[port]) == api.MaxWaiting {
				want = append(want, errno(api.ErrFull))
				continue
			}
			badge := []int{0, 12 + 10*port, 13 + 10*port}[who-1]
			want, queues[port] = append(want, "ok"), append(queues[port], fmt.Sprint(data, " badge ", badge, " slot -1"))
		}
		for i, got := range run(t, l...) {
			if got != want[i] {
				t.Fatalf("behind %q: %q: %q, not %q", l[:i], l[i], got, want[i])
			}
		}
	}
}
