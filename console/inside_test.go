package console

import (
	"testing"

	"writkeep/keep"
	"writkeep/realm"
)

// TestL1NoBytes: - is no bytes in the realm too, where no line tells it from a cell, or a note, with a - in it.
func TestL1NoBytes(t *testing.T) {
	s, err := newSession()
	if err != nil {
		t.Fatal(err)
	}
	for _, line := range []string{"cell 1 0", "write 1 0 hay", "write 1 0 -", "port 1 1", "send 1 1 -", "send 1 1 - 0 l"} {
		if a := s.answer(line); a != "ok" {
			t.Errorf("%q: %q", line, a)
		}
	}
	r := s.keep.Realm()
	if data := r.Things[0].Data + r.Notes[0].Data + r.Notes[1].Data; data != "" {
		t.Errorf("the bytes are %q", data)
	}
}

// TestL1Kept: what a line changed is on the disk when it is answered.
func TestL1Kept(t *testing.T) {
	s, err := newSession()
	if err != nil {
		t.Fatal(err)
	}
	for _, line := range []string{"cell 1 0", "write 1 0 hay", "give 1 0 2 0 lg 7", "move 2 0 1", "port 1 1", "send 1 1 x 0 l", "take 1 1", "revoke 1 0", "drop 1 0"} {
		if a := s.answer(line); a != "ok" && a != "x badge 0 slot 2" {
			t.Errorf("%q: %q", line, a)
		}
		k, err := keep.Open(s.disk)
		if err != nil {
			t.Fatal(err)
		}
		want, got := realm.Quiet(s.keep.Realm()), k.Realm()
		if len(got.Writs) != len(want.Writs) || len(got.Things) != len(want.Things) || got.NextWrit != want.NextWrit || got.NextThing != want.NextThing {
			t.Errorf("%q: on the disk is %v, not %v", line, got, want)
		}
	}
}
