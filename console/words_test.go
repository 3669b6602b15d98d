package console_test

import (
	"strings"
	"testing"

	"writkeep/api"
)

// TestL2Long: a line of MaxLine bytes is read, one of more isn't, whatever it would do.
func TestL2Long(t *testing.T) {
	for _, c := range []struct {
		long         int
		bare, behind string
	}{
		{api.MaxLine - 1, "error 5", "error 2"}, {api.MaxLine, "error 5", "error 2"},
		{api.MaxLine + 1, "error 4", "error 4"}, {api.MaxLine + 2, "error 4", "error 4"}, {9999, "error 4", "error 4"},
	} {
		line := "write 1 1 "
		line += strings.Repeat("x", c.long-len(line))
		if a := last(t, line); a != c.bare {
			t.Errorf("%d bytes, with no writ: %q", c.long, a)
		}
		if a := last(t, behind(farm, line)...); a != c.behind {
			t.Errorf("%d bytes: %q", c.long, a)
		}
		if a := last(t, strings.Repeat(" ", c.long)); a != "error 4" {
			t.Errorf("%d blanks: %q", c.long, a)
		}
	}
	// Bytes are counted, not letters.
	if a := last(t, behind(farm, "write 1 1 "+strings.Repeat("é", 25))...); a != "error 2" {
		t.Errorf("60 bytes: %q", a)
	}
	if a := last(t, behind(farm, "write 1 1 "+strings.Repeat("é", 26))...); a != "error 4" {
		t.Errorf("62 bytes: %q", a)
	}
}

// good lines, one of each form, that are done behind some others.
var good = []string{
	"cell 2 0", "port 2 0", "give 1 0 2 0 lag 7", "move 1 0 5", "drop 1 0", "revoke 1 0", "read 1 1", "write 1 1 x", "send 1 0 x",
	"send 1 0 x 1 l", "take 1 0", "show 1 0", "all", "save", "arm 9", "restart 0",
}

// waits: behind these lines each good one is done.
var waits = behind(farm, "send 1 0 hay")

// refused: behind others a line is none, and does nothing.
func refused(t *testing.T, line string) {
	t.Helper()
	answers := run(t, behind(waits, line, "all", "show 1 0", "read 1 1", "show 2 0")...)[len(waits):]
	for i, want := range []string{"error 4", "2 2 1", "1 of 1 lag badge 0 from 0 beneath 0", "-", "error 5"} {
		if answers[i] != want {
			t.Errorf("behind %q: %q, not %q", line, answers[i], want)
		}
	}
}

func TestL1Good(t *testing.T) {
	for _, line := range good {
		if a := last(t, behind(waits, line)...); strings.HasPrefix(a, "error") {
			t.Errorf("%q: %q", line, a)
		}
	}
}

// TestL2Blanks: none between two words, two, one ahead, one behind, another sign instead.
func TestL2Blanks(t *testing.T) {
	for _, line := range good {
		refused(t, " "+line)
		refused(t, line+" ")
		refused(t, line+"  ")
		for at := range len(line) {
			if line[at] == ' ' {
				refused(t, line[:at]+" "+line[at:])
				refused(t, line[:at]+"\t"+line[at+1:])
				refused(t, line[:at]+"\u00a0"+line[at+1:])
			}
		}
		if first, rest, more := strings.Cut(line, " "); more {
			refused(t, first+rest)
			refused(t, strings.ReplaceAll(line, " ", ""))
		}
		if !strings.HasSuffix(line, " x") { // where it would be a part of the data
			refused(t, line+"\n")
		}
	}
}

// TestL2Words: a word too few, a word too many, and other first words.
func TestL2Words(t *testing.T) {
	for _, line := range good {
		words := strings.Split(line, " ")
		for n := 1; n < len(words); n++ {
			if n == 4 && words[0] == "send" {
				continue // a line of its own
			}
			refused(t, strings.Join(words[:n], " "))
			refused(t, strings.Join(words[:n], " ")+" ")
		}
		for _, more := range []string{"0", "l", "x", "-"} {
			refused(t, line+" "+more)
		}
		refused(t, line+" 1 l 0")
		refused(t, strings.ToUpper(words[0])+line[len(words[0]):])
		refused(t, words[0]+"s"+line[len(words[0]):])
		refused(t, words[0][1:]+line[len(words[0]):])
		refused(t, strings.Join(words[1:], " "))
	}
	for _, line := range []string{"", " ", "-", "0", "ok", "error 4", "fly", "fly high", "quiet", "get 1 0", "make 1 0", "check", "\x00", "\xff", "all\x00"} {
		refused(t, line)
	}
}

// isNumber: where a good line has a number, by its words.
func isNumber(word string) bool { return word >= "0" && word <= "9" }

// TestL2Numbers: in each place of a number what is none is refused, and what is one goes to who knows its bounds.
func TestL2Numbers(t *testing.T) {
	for _, line := range good {
		words := strings.Split(line, " ")
		for i, w := range words {
			if !isNumber(w) {
				continue
			}
			with := func(n string) string {
				return strings.Join(append(append(append([]string{}, words[:i]...), n), words[i+1:]...), " ")
			}
			for _, n := range []string{"1000", "1001", "9999", "99999999999999999999", "00", "01", "000", "0999", "-0", "-1", "+0", "+1", "", "1.0", "1e2", "0x1", "1_0", "a", "l", "-", "१", "½", "1\x00"} {
				refused(t, with(n))
			}
			for _, n := range []string{"0", "1", "9", "10", "99", "100", "998", "999"} {
				if a := last(t, behind(waits, with(n))...); a == "error 4" {
					t.Errorf("%q: %q", with(n), a)
				}
			}
		}
	}
	told(t, `
cell 0 0 => error 1
cell 1 0 => ok
cell 4 5 => ok
cell 5 0 => error 1
cell 1 6 => error 1
cell 999 999 => error 1
cell 1000 0 => error 4
give 1 0 2 0 l 99 => ok
give 1 0 2 1 l 100 => error 1
give 1 0 2 1 l 999 => error 1
give 1 0 2 1 l 1000 => error 4
give 1 0 999 1 l 0 => error 1
move 1 0 999 => error 1
move 1 0 1000 => error 4
restart 999 => ok
restart 1000 => error 4
arm 1000 => error 4
arm 999 => ok`)
}

// TestL2Rights: each Text of rights, and what is none.
func TestL2Rights(t *testing.T) {
	for _, r := range []string{"-", "l", "a", "la", "g", "lg", "ag", "lag"} {
		answers := run(t, behind(farm, "give 1 1 2 0 "+r+" 0", "show 2 0", "send 1 0 x 1 "+r, "take 1 0", "show 1 2")...)[len(farm):]
		for i, want := range []string{"ok", "3 of 2 " + r + " badge 0 from 2 beneath 0", "ok", "x badge 0 slot 2", "4 of 2 " + r + " badge 0 from 2 beneath 0"} {
			if answers[i] != want {
				t.Errorf("rights %s: %q, not %q", r, answers[i], want)
			}
		}
	}
	for _, r := range []string{"gl", "al", "ga", "gal", "ll", "L", "x", "lx", "l-", "-l", "--", "0", "1", "7", "lagl", "", "la g", "l\x00"} {
		refused(t, "give 1 1 2 0 "+r+" 0")
		refused(t, "send 1 0 x 1 "+r)
		// Also where what it would do isn't done anyway.
		refused(t, "give 9 9 2 0 "+r+" 999")
		refused(t, "send 4 4 x 1 "+r)
	}
}

// TestL1Data: - for no bytes, a word of up to MaxData bytes, of any signs but a blank, and one more.
func TestL1Data(t *testing.T) {
	for _, data := range []string{"-", "x", "--", "-x", "x-", "0", "ok", "error", "lag", "12345678", "a\tb", "\n", "\x00", "\xff\xfe", "éééé", "=>", "\u00a0"} {
		answers := run(t, behind(farm, "write 1 1 hay", "write 1 1 "+data, "read 1 1", "restart 0", "read 1 1", "send 1 0 "+data, "send 1 0 "+data+" 1 l", "take 1 0", "take 1 0")...)[len(farm):]
		for i, want := range []string{"ok", "ok", data, "ok", data, "ok", "ok", data + " badge 0 slot -1", data + " badge 0 slot 2"} {
			if answers[i] != want {
				t.Errorf("data %q: %q, not %q", data, answers[i], want)
			}
		}
	}
	for _, data := range []string{"123456789", "ééééé", "---------", strings.Repeat("x", 30)} {
		answers := run(t, behind(farm, "write 1 1 hay", "write 1 1 "+data, "read 1 1", "send 1 0 "+data, "send 1 0 "+data+" 1 l", "take 1 0", "all")...)[len(farm):]
		for i, want := range []string{"ok", "error 2", "hay", "error 2", "error 2", "error 5", "2 2 0"} {
			if answers[i] != want {
				t.Errorf("data %q: %q, not %q", data, answers[i], want)
			}
		}
	}
	refused(t, "write 1 1")
	refused(t, "write 1 1 ")
	refused(t, "write 1 1  ")
	refused(t, "write 1 1 a b")
	refused(t, "send 1 0 ")
	refused(t, "send 1 0  1 l")
}
