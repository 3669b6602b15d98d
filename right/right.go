// Package right: rights, and their texts.
package right

import "writkeep/api"

// letters of the rights: each right is twice the one ahead, so that a letter's place tells which right it is.
const letters = "lag"

// nothing is the text of no rights: a word of its own, as an empty one couldn't be seen in a line.
const nothing = "-"

// Check rights.
func Check(r int) error {
	if r < 0 || r > api.All {
		return api.ErrBound
	}
	return nil
}

// Has: have rights all of others?
func Has(r, need int) bool {
	return Both(r, need) == need
}

// Both: what two have.
func Both(a, b int) int {
	return a & b
}

// Text of rights: their letters; - for none.
func Text(r int) string {
	text := ""
	for i := range len(letters) {
		if Has(r, api.Look<<i) {
			text += letters[i : i+1]
		}
	}
	if text == "" {
		return nothing
	}
	return text
}

// Parse rights.
func Parse(s string) (int, error) {
	// Held against every Text, so that the two can't come apart.
	for r := range api.All + 1 {
		if Text(r) == s {
			return r, nil
		}
	}
	return 0, api.ErrText
}
