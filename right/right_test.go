package right

import (
	"math"
	"strings"
	"testing"

	"writkeep/api"
)

// texts of all rights, by their numbers.
var texts = []string{"-", "l", "a", "la", "g", "lg", "ag", "lag"}

// TestA1Check: rights go from 0 to All, and no further on either side.
func TestA1Check(t *testing.T) {
	for r := 0; r <= 7; r++ {
		if err := Check(r); err != nil {
			t.Errorf("Check(%d): %v", r, err)
		}
	}
	for _, r := range []int{math.MinInt, -8, -7, -1, 8, 9, 15, 16, 1 << 32, math.MaxInt} {
		if err := Check(r); err != error(api.ErrBound) {
			t.Errorf("Check(%d): %v, not ErrBound", r, err)
		}
	}
}

// TestA1Names: the three rights have the numbers that the document gives them.
func TestA1Names(t *testing.T) {
	if api.Look != 1 || api.Alter != 2 || api.Grant != 4 || api.All != 7 {
		t.Error("rights have other numbers")
	}
	for r, want := range map[int]string{api.Look: "l", api.Alter: "a", api.Grant: "g", api.All: "lag"} {
		if got := Text(r); got != want {
			t.Errorf("Text(%d): %q, not %q", r, got, want)
		}
	}
}

// single: does a text of rights have a letter?
func single(r int, letter string) bool { return strings.Contains(texts[r], letter) }

// TestA1HasBoth holds all pairs against the letters of their texts.
func TestA1HasBoth(t *testing.T) {
	for a := range texts {
		for b := range texts {
			has, both := true, ""
			for _, letter := range []string{"l", "a", "g"} {
				if single(b, letter) && !single(a, letter) {
					has = false
				}
				if single(a, letter) && single(b, letter) {
					both += letter
				}
			}
			if both == "" {
				both = "-"
			}
			if got := Has(a, b); got != has {
				t.Errorf("Has(%d, %d): %v", a, b, got)
			}
			if got := texts[Both(a, b)]; got != both {
				t.Errorf("Both(%d, %d): %s, not %s", a, b, got, both)
			}
		}
	}
}

// TestA2Text: each of the eight texts, there and back.
func TestA2Text(t *testing.T) {
	for r, want := range texts {
		if got := Text(r); got != want {
			t.Errorf("Text(%d): %q, not %q", r, got, want)
		}
		if got, err := Parse(want); got != r || err != nil {
			t.Errorf("Parse(%q): %d %v, not %d", want, got, err, r)
		}
	}
}

// words of some letters, up to a length.
func words(letters string, most int) []string {
	all := []string{""}
	last := all
	for range most {
		var next []string
		for _, w := range last {
			for i := range len(letters) {
				next = append(next, w+letters[i:i+1])
			}
		}
		all, last = append(all, next...), next
	}
	return all
}

// TestA2ParseWrong: what isn't a Text is not read, and tells no rights beside the error (Z1, Z3).
func TestA2ParseWrong(t *testing.T) {
	wrong := []string{"LAG", "l ", " l", "l\n", "\x00", "l\x00", "7", "0", "é", "\xff", "lág", strings.Repeat("l", 1000)}
	may := map[string]int{}
	for r, s := range texts {
		may[s] = r
	}
	for _, s := range words("lag-x", 4) {
		if _, is := may[s]; !is {
			wrong = append(wrong, s)
		}
	}
	for _, s := range wrong {
		if got, err := Parse(s); got != 0 || err != error(api.ErrText) {
			t.Errorf("Parse(%q): %d %v, not 0 and ErrText", s, got, err)
		}
	}
}

// TestZ1Ends: also of rights that may not be every call answers.
func TestZ1Ends(t *testing.T) {
	odd := []int{math.MinInt, -1, 0, 7, 8, math.MaxInt}
	for _, a := range odd {
		Text(a)
		for _, b := range odd {
			Has(a, b)
			Both(a, b)
		}
	}
}
