package store

import (
	"slices"
	"strings"
	"testing"

	"writkeep/api"
	"writkeep/disk"
)

func padded(s string) string { return s + strings.Repeat("\x00", api.Sector-len(s)) }

// TestHead: a head is read from its sector, and from no other bytes.
func TestHead(t *testing.T) {
	for _, h := range []head{{0, 1, 0}, {1, 1, 2100}, {0, 1 << 40, 255}, {1, 1<<32 + 7, halfSectors * api.Sector}} {
		s := padded(h.text())
		if got, is := parseHead(s); got != h || !is {
			t.Errorf("parseHead(%q) = %v, %v, not %v", s, got, is, h)
		}
		for i := range s {
			if i >= halfAt && i < headEnd {
				continue
			}
			b := []byte(s)
			b[i] ^= 32
			if got, is := parseHead(string(b)); is || got != (head{}) {
				t.Errorf("parseHead(%q) = %v, %v", b, got, is)
			}
		}
	}
	for _, h := range []head{{0, 0, 0}, {2, 1, 0}, {255, 1, 0}, {0, -1, 0}, {0, 1, halfSectors*api.Sector + 1}, {1, 1, 65535}} {
		if got, is := parseHead(padded(h.text())); is || got != (head{}) {
			t.Errorf("parseHead of %v = %v, %v", h, got, is)
		}
	}
}

// TestHalves: the most that rows may need goes into a half, and no half meets the head, the other one, or the log.
func TestHalves(t *testing.T) {
	var rows []api.Change
	for i := range api.MaxRows {
		rows = append(rows, api.Change{Key: strings.Repeat(string(rune('0'+i)), api.MaxKey), Val: strings.Repeat("v", api.MaxVal)})
	}
	text, err := join(rows)
	if err != nil || len(text) > halfSectors*api.Sector {
		t.Errorf("%d bytes of rows, in %d sectors: %v", len(text), halfSectors, err)
	}
	first, second := head{half: 0}, head{half: 1}
	if first.at() < 1 || second.at() < first.at()+halfSectors || second.at()+halfSectors > logAt {
		t.Errorf("halves at %d and %d, of %d sectors", first.at(), second.at(), halfSectors)
	}
	if got, err := split(text); !slices.Equal(got, rows) || err != nil {
		t.Errorf("split: %v, %v", got, err)
	}
}

// TestSplit: a text that isn't rows is told as such.
func TestSplit(t *testing.T) {
	whole, err := join([]api.Change{{Key: "a", Val: "1"}, {Key: "b", Val: "22"}})
	if err != nil || whole != "\x04\x00\x01a1\x05\x00\x01b22" {
		t.Fatalf("join: %q, %v", whole, err)
	}
	for _, s := range []string{"\x00", "\x01", "\xff", whole[:3], whole[:6], whole + "\x00", whole[1:], strings.Repeat("z", 60)} {
		if got, err := split(s); got != nil || err != error(api.ErrText) {
			t.Errorf("split(%q) = %v, %v", s, got, err)
		}
	}
	if _, err := join([]api.Change{{}}); err != error(api.ErrShape) {
		t.Errorf("join of what may not be: %v", err)
	}
	d, err := disk.New(least)
	if err != nil {
		t.Fatal(err)
	}
	for _, err := range []error{d.Write(0, head{first: 1, size: 100}.text()), d.Write(1, strings.Repeat("z", api.Sector)), d.Flush()} {
		if err != nil {
			t.Fatal(err)
		}
	}
	if s, err := Open(d); s != nil || err != error(api.ErrText) {
		t.Errorf("Open of a head with no rows: %v, %v", s, err)
	}
}
