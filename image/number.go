package image

import "strconv"

// text of numbers, one behind the other, of at least so many digits each.
func text(digits int, numbers ...int) string {
	out := ""
	for _, n := range numbers {
		one := strconv.Itoa(n)
		for range digits - len(one) {
			out += "0"
		}
		out += one
	}
	return out
}

// numbers of a text: so many, of so many digits each, and nothing else; false: it isn't such a text.
func numbers(s string, digits, many int) ([]int, bool) {
	if len(s) != digits*many {
		return nil, false
	}
	out := make([]int, many)
	for i := range len(s) {
		// Digit by digit, as a sign ahead is no number's here.
		if s[i] < '0' || s[i] > '9' {
			return nil, false
		}
		out[i/digits] = 10*out[i/digits] + int(s[i]-'0')
	}
	return out, true
}
