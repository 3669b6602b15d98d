package little_test

import (
	"math"
	"testing"

	"writkeep/little"
)

func TestBytes(t *testing.T) {
	for _, c := range []struct {
		n, many int
		want    string
	}{
		{0, 0, ""}, {0, 1, "\x00"}, {1, 4, "\x01\x00\x00\x00"}, {0x01020304, 4, "\x04\x03\x02\x01"}, {0x01020304, 2, "\x04\x03"},
		{1 << 32, 4, "\x00\x00\x00\x00"}, {1<<32 + 7, 4, "\x07\x00\x00\x00"}, {300, 2, "\x2c\x01"}, {255, 1, "\xff"}, {256, 1, "\x00"},
		{math.MaxInt, 8, "\xff\xff\xff\xff\xff\xff\xff\x7f"}, {math.MinInt, 4, "\x00\x00\x00\x00"}, {-1, 2, "\xff\xff"},
	} {
		if got := little.Bytes(c.n, c.many); got != c.want {
			t.Errorf("Bytes(%d, %d) = %q, not %q", c.n, c.many, got, c.want)
		}
	}
}

func TestNumber(t *testing.T) {
	for _, n := range []int{0, 1, 7, 255, 256, 258, 65535, 65536, 1 << 32, 1<<40 + 3, math.MaxInt} {
		if got := little.Number(little.Bytes(n, 8)); got != n {
			t.Errorf("Number of Bytes(%d) = %d", n, got)
		}
	}
	for s, want := range map[string]int{"": 0, "\x05": 5, "\xff": 255, "\x01\x02": 513, "\xff\xff": 65535} {
		if got := little.Number(s); got != want {
			t.Errorf("Number(%q) = %d, not %d", s, got, want)
		}
	}
}
