// Package little: numbers as bytes, the lowest one first.
package little

// Bytes of a number: so many of its lowest ones.
func Bytes(n, many int) string {
	out := make([]byte, many)
	for i := range out {
		out[i] = byte(n >> (8 * i))
	}
	return string(out)
}

// Number of bytes.
func Number(s string) int {
	n := 0
	for i := range len(s) {
		n |= int(s[i]) << (8 * i)
	}
	return n
}
