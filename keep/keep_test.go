package keep_test

import (
	"errors"
	"slices"
	"strings"
	"testing"

	"writkeep/api"
	"writkeep/disk"
	"writkeep/image"
	"writkeep/keep"
	"writkeep/realm"
	"writkeep/store"
)

// least: how few sectors a disk may have.
const least = 166

// deed: what is done to a realm.
type deed func(r api.Realm) (api.Realm, error)

func place(holder, slot int) api.Place { return api.Place{Holder: holder, Slot: slot} }

func cell(p api.Place) deed {
	return func(r api.Realm) (api.Realm, error) { return realm.Make(r, p, api.Cell) }
}

func port(p api.Place) deed {
	return func(r api.Realm) (api.Realm, error) { return realm.Make(r, p, api.Port) }
}

func give(from, to api.Place, rights, badge int) deed {
	return func(r api.Realm) (api.Realm, error) { return realm.Give(r, from, to, rights, badge) }
}

func write(p api.Place, data string) deed {
	return func(r api.Realm) (api.Realm, error) { return realm.Write(r, p, data) }
}

func send(p api.Place, data string, slot, rights int) deed {
	return func(r api.Realm) (api.Realm, error) { return realm.Send(r, p, data, slot, rights) }
}

func take(p api.Place) deed {
	return func(r api.Realm) (api.Realm, error) {
		x, _, _, err := realm.Take(r, p)
		return x, err
	}
}

func drop(p api.Place) deed {
	return func(r api.Realm) (api.Realm, error) { return realm.Drop(r, p) }
}

func revoke(p api.Place) deed {
	return func(r api.Realm) (api.Realm, error) { return realm.Revoke(r, p) }
}

// all of these deeds, one behind the other, as one.
func all(deeds ...deed) deed {
	return func(r api.Realm) (api.Realm, error) {
		var err error
		for _, d := range deeds {
			if r, err = d(r); err != nil {
				return api.Realm{}, err
			}
		}
		return r, nil
	}
}

// same: have two realms the same in them?
func same(a, b api.Realm) bool {
	return slices.Equal(a.Writs, b.Writs) && slices.Equal(a.Things, b.Things) && slices.Equal(a.Held, b.Held) &&
		slices.Equal(a.Notes, b.Notes) && a.NextWrit == b.NextWrit && a.NextThing == b.NextThing
}

func does(t *testing.T, err error) {
	t.Helper()
	if err != nil {
		t.Fatalf("it answers %v", err)
	}
}

func fresh(t *testing.T, n int) *disk.Disk {
	t.Helper()
	d, err := disk.New(n)
	does(t, err)
	return d
}

// formatted disk, and the keep that is opened on it.
func formatted(t *testing.T) (*disk.Disk, *keep.Keep) {
	t.Helper()
	d := fresh(t, least)
	does(t, keep.Format(d))
	return d, opened(t, d, realm.New())
}

// opened: the realm on the disk must be this one.
func opened(t *testing.T, d *disk.Disk, want api.Realm) *keep.Keep {
	t.Helper()
	k, err := keep.Open(d)
	if k == nil || err != nil {
		t.Fatalf("Open: %v", err)
	}
	has(t, k, want)
	return k
}

func has(t *testing.T, k *keep.Keep, want api.Realm) {
	t.Helper()
	if got := k.Realm(); !same(got, want) {
		t.Fatalf("Realm() = %v, not %v", got, want)
	}
}

// did: what comes of a deed, done to a realm that isn't kept.
func did(t *testing.T, r api.Realm, d deed) api.Realm {
	t.Helper()
	x, err := d(realm.Copy(r))
	does(t, err)
	return x
}

func sectorsOf(t *testing.T, d *disk.Disk) []string {
	t.Helper()
	var l []string
	for at := range d.Sectors() {
		s, err := d.Read(at)
		if err != nil {
			t.Fatal(err)
		}
		l = append(l, s)
	}
	return l
}

// twin: another disk with the same on it.
func twin(t *testing.T, d *disk.Disk) *disk.Disk {
	t.Helper()
	x := fresh(t, d.Sectors())
	for at, s := range sectorsOf(t, d) {
		if x.Write(at, s) != nil {
			t.Fatal("it isn't written")
		}
	}
	does(t, x.Flush())
	return x
}

func down(t *testing.T, d *disk.Disk) {
	t.Helper()
	d.Arm(0)
	if d.Flush() == nil {
		t.Fatal("it isn't down")
	}
}

// farm: a port and a cell with data, held and given on by three.
func farm() deed {
	return all(port(place(1, 0)), cell(place(1, 1)), write(place(1, 1), "hay"), give(place(1, 1), place(2, 0), 5, 0),
		give(place(2, 0), place(3, 3), 1, 0), give(place(1, 0), place(2, 5), 7, 9))
}

func TestK1Format(t *testing.T) {
	for _, n := range []int{least, 170, api.Sectors} {
		d := fresh(t, n)
		does(t, keep.Format(d))
		d.Restart(0)
		s, err := store.Open(d)
		does(t, err)
		if rows := s.Rows(); !slices.Equal(rows, []api.Change{{Key: "x", Val: "00010001"}}) {
			t.Errorf("Format: rows %v", rows)
		}
		opened(t, d, realm.New())
	}
	for _, n := range []int{1, least - 1} {
		d := fresh(t, n)
		if err := keep.Format(d); err != error(api.ErrFull) {
			t.Errorf("Format of %d sectors: %v", n, err)
		}
		down(t, d)
		if err := keep.Format(d); err != error(api.ErrFull) {
			t.Errorf("Format of %d sectors that are down: %v", n, err)
		}
	}
}

// TestK1Anew: of a realm that was on the disk nothing is left.
func TestK1Anew(t *testing.T) {
	d, k := formatted(t)
	does(t, k.Do(farm()))
	does(t, k.Save())
	does(t, k.Do(drop(place(2, 5))))
	does(t, keep.Format(d))
	k = opened(t, d, realm.New())
	for range 4 {
		does(t, k.Save())
		k = opened(t, d, realm.New())
	}
}

// TestK1FormatFalls: where it falls in it, that is told.
func TestK1FormatFalls(t *testing.T) {
	for step := 0; ; step++ {
		d := fresh(t, least)
		d.Arm(step)
		err := keep.Format(d)
		if d.Down() != (err == error(api.ErrDown)) || !d.Down() && err != nil {
			t.Fatalf("step %d: Format: %v, and it is down: %v", step, err, d.Down())
		}
		if !d.Down() {
			d.Restart(0)
			opened(t, d, realm.New())
			break
		}
	}
}

// refused: what is on the disk isn't opened.
func refused(t *testing.T, name string, d *disk.Disk, want api.Errno) {
	t.Helper()
	if k, err := keep.Open(d); k != nil || err != error(want) {
		t.Errorf("Open of %s: %v, %v, not %v", name, k, err, want)
	}
}

func TestK1Open(t *testing.T) {
	refused(t, "noughts", fresh(t, least), api.ErrText)
	refused(t, "few noughts", fresh(t, 1), api.ErrText)
	d := fresh(t, least)
	does(t, store.Format(d))
	refused(t, "an empty store", d, api.ErrText)
	whole := image.Rows(did(t, realm.New(), farm()))
	// With any one row less, or another one, they do not go together.
	for i := range whole {
		d := fresh(t, least)
		does(t, store.Format(d))
		s, err := store.Open(d)
		does(t, err)
		does(t, s.Commit(slices.Delete(slices.Clone(whole), i, i+1)))
		refused(t, "rows without "+whole[i].Key, d, api.ErrText)
		does(t, s.Commit(whole[i:i+1]))
		opened(t, d, did(t, realm.New(), farm()))
		does(t, s.Commit([]api.Change{{Key: "zz", Val: "1"}}))
		refused(t, "another row", d, api.ErrText)
	}
	down(t, d)
	refused(t, "what is down", d, api.ErrDown)
	d, _ = formatted(t)
	down(t, d)
	refused(t, "what is down", d, api.ErrDown)
	if err := keep.Format(d); err != error(api.ErrDown) {
		t.Errorf("Format of what is down: %v", err)
	}
}

// TestK1Realm: what is answered is a copy.
func TestK1Realm(t *testing.T) {
	_, k := formatted(t)
	does(t, k.Do(all(farm(), send(place(1, 0), "note", 1, 1))))
	want := did(t, realm.New(), all(farm(), send(place(1, 0), "note", 1, 1)))
	has(t, k, want)
	smash(k.Realm())
	has(t, k, want)
}

// smash all lists of a realm, with what is behind them.
func smash(r api.Realm) {
	w, h, n, s := r.Writs[:cap(r.Writs)], r.Held[:cap(r.Held)], r.Notes[:cap(r.Notes)], r.Things[:cap(r.Things)]
	for i := range w {
		w[i] = api.Writ{ID: 77}
	}
	for i := range h {
		h[i] = api.Held{Writ: 77}
	}
	for i := range n {
		n[i] = api.Note{Data: "smashed"}
	}
	for i := range s {
		s[i] = api.Thing{ID: 77}
	}
}

// TestK2Do: what is done is there, and on the disk, for good, as one deed.
func TestK2Do(t *testing.T) {
	d, k := formatted(t)
	want := realm.New()
	for _, w := range []deed{
		cell(place(1, 0)), write(place(1, 0), "oats"), give(place(1, 0), place(2, 2), 5, 0), farmAt(4), revoke(place(1, 0)), drop(place(1, 0)),
		all(port(place(1, 1)), cell(place(1, 2)), give(place(1, 1), place(3, 0), 7, 3)),
	} {
		room := roomOf(t, d)
		before := image.Rows(want)
		want = did(t, want, w)
		does(t, k.Do(w))
		has(t, k, want)
		d.Restart(0)
		opened(t, d, want)
		if used, n := room-roomOf(t, d), len(image.Changes(before, image.Rows(want))); used != n+1 {
			t.Errorf("%d changes: %d sectors of the log", n, used)
		}
	}
}

// farmAt: a cell of a holder, given to another slot of his, and written.
func farmAt(holder int) deed {
	return all(cell(place(holder, 0)), give(place(holder, 0), place(holder, 1), 3, 0), write(place(holder, 1), "x"))
}

// roomOf the store's log on a disk.
func roomOf(t *testing.T, d *disk.Disk) int {
	t.Helper()
	s, err := store.Open(d)
	does(t, err)
	return s.Room()
}

// TestK2Error: its error is told, and nothing is changed, whatever it did with its copy.
func TestK2Error(t *testing.T) {
	d, k := formatted(t)
	does(t, k.Do(all(farm(), send(place(1, 0), "waits", -1, 0))))
	want := k.Realm()
	other := errors.New("another one")
	for _, c := range []struct {
		what deed
		want error
	}{
		{cell(place(1, 0)), api.ErrTaken},
		{cell(place(9, 0)), api.ErrBound},
		{write(place(2, 0), "x"), api.ErrRight},
		{write(place(2, 5), "x"), api.ErrKind},
		{all(cell(place(4, 0)), cell(place(4, 0))), api.ErrTaken},
		{all(revoke(place(1, 1)), drop(place(2, 0))), api.ErrNone},
		{func(r api.Realm) (api.Realm, error) { smash(r); return r, api.ErrShape }, api.ErrShape},
		{func(r api.Realm) (api.Realm, error) { return realm.New(), other }, other},
	} {
		was := sectorsOf(t, d)
		d.Arm(0)
		if err := k.Do(c.what); err != c.want {
			t.Errorf("Do: %v, not %v", err, c.want)
		}
		if d.Down() {
			t.Fatal("a step was taken")
		}
		d.Arm(-1)
		has(t, k, want)
		if !slices.Equal(sectorsOf(t, d), was) {
			t.Error("the disk was altered")
		}
	}
	down(t, d)
	if err := k.Do(cell(place(1, 0))); err != error(api.ErrTaken) {
		t.Errorf("Do of what fails, down: %v", err)
	}
	if err := k.Do(cell(place(4, 0))); err != error(api.ErrDown) {
		t.Errorf("Do, down: %v", err)
	}
	if err := k.Save(); err != error(api.ErrDown) {
		t.Errorf("Save, down: %v", err)
	}
	has(t, k, want)
}

// TestK2Many: what needs more changes than a deed may have isn't done.
func TestK2Many(t *testing.T) {
	d, k := formatted(t)
	var wide, narrow []deed
	for holder := 1; holder <= api.MaxHolder; holder++ {
		for slot := range api.MaxSlot + 1 {
			if holder == 1 {
				wide, narrow = append(wide, cell(place(1, slot))), append(narrow, drop(place(1, slot)))
			} else {
				wide, narrow = append(wide, give(place(1, slot), place(holder, slot), 7, 0)), append(narrow, drop(place(holder, slot)))
			}
		}
	}
	does(t, k.Do(all(wide...)))
	want := did(t, realm.New(), all(wide...))
	opened(t, d, want)
	anew := all(append(narrow, wide...)...)
	if n := len(image.Changes(image.Rows(want), image.Rows(did(t, want, anew)))); n <= api.MaxChanges {
		t.Fatalf("just %d changes", n)
	}
	was := sectorsOf(t, d)
	if err := k.Do(anew); err != error(api.ErrMany) {
		t.Errorf("Do of too much: %v", err)
	}
	has(t, k, want)
	if !slices.Equal(sectorsOf(t, d), was) {
		t.Error("the disk was altered")
	}
	does(t, k.Do(all(narrow...)))
	does(t, k.Do(all(wide...)))
	opened(t, d, did(t, want, anew))
}

// TestK2Waits: what waits is in the realm, though not on the disk; where no row is another one, no step is taken.
func TestK2Waits(t *testing.T) {
	d, k := formatted(t)
	does(t, k.Do(farm()))
	quiet := k.Realm()
	d.Arm(0)
	does(t, k.Do(send(place(1, 0), "one", -1, 0)))
	does(t, k.Do(func(r api.Realm) (api.Realm, error) { return r, nil }))
	d.Arm(-1)
	want := did(t, quiet, send(place(1, 0), "one", -1, 0))
	has(t, k, want)
	opened(t, d, quiet)
	// With a writ the next number of a writ is another one, so that it isn't given out twice.
	does(t, k.Do(send(place(1, 0), "two", 1, 1)))
	want = did(t, want, send(place(1, 0), "two", 1, 1))
	has(t, k, want)
	quiet.NextWrit++
	opened(t, d, quiet)
	does(t, k.Do(all(take(place(1, 0)), take(place(1, 0)))))
	want = did(t, want, all(take(place(1, 0)), take(place(1, 0))))
	has(t, k, want)
	opened(t, d, want)
	if w, err := realm.Get(want, place(1, 2)); w.From != 2 || err != nil {
		t.Errorf("what was taken: %v, %v", w, err)
	}
}

func TestK2Save(t *testing.T) {
	d, k := formatted(t)
	want := realm.New()
	for i, w := range []deed{farm(), send(place(1, 0), "waits", -1, 0), revoke(place(1, 1)), drop(place(1, 0))} {
		want = did(t, want, w)
		does(t, k.Do(w))
		does(t, k.Save())
		has(t, k, want)
		d.Restart(0)
		opened(t, d, realm.Quiet(want))
		if room := roomOf(t, d); room != least-102 {
			t.Errorf("%d: Save leaves %d sectors of the log", i, room)
		}
	}
}

// TestZ2: what is done gets a list of its own, and what it answers isn't shared with it.
func TestZ2(t *testing.T) {
	d, k := formatted(t)
	var mine, given api.Realm
	does(t, k.Do(func(r api.Realm) (api.Realm, error) {
		given = r
		x, err := all(farm(), send(place(1, 0), "note", 1, 1))(r)
		mine = realm.Copy(x)
		return mine, err
	}))
	want := realm.Copy(mine)
	smash(given)
	smash(mine)
	has(t, k, want)
	does(t, k.Do(func(r api.Realm) (api.Realm, error) {
		given = realm.Copy(r)
		smash(r)
		return given, nil
	}))
	has(t, k, want)
	smash(given)
	has(t, k, want)
	opened(t, d, realm.Quiet(want))
	// What is done may look at what is kept.
	does(t, k.Do(func(r api.Realm) (api.Realm, error) {
		smash(k.Realm())
		return k.Realm(), nil
	}))
	has(t, k, want)
}

// TestK2Long: data of any bytes, and numbers up to the last one, are kept.
func TestK2Long(t *testing.T) {
	d, k := formatted(t)
	does(t, k.Do(cell(place(1, 0))))
	for _, data := range []string{"", "\x00", "\xff\xfe\n ", strings.Repeat("z", api.MaxData)} {
		does(t, k.Do(write(place(1, 0), data)))
		if got, err := realm.Read(opened(t, d, k.Realm()).Realm(), place(1, 0)); got != data || err != nil {
			t.Errorf("Read: %q, %v, not %q", got, err, data)
		}
	}
	for id := 2; id <= api.MaxID; id++ {
		does(t, k.Do(give(place(1, 0), place(2, 0), 7, id%100)))
		does(t, k.Do(drop(place(2, 0))))
	}
	k = opened(t, d, k.Realm())
	if err := k.Do(give(place(1, 0), place(2, 0), 7, 0)); err != error(api.ErrFull) {
		t.Errorf("a writ beyond the last number: %v", err)
	}
}
