package keep_test

import (
	"testing"

	"writkeep/api"
	"writkeep/disk"
	"writkeep/image"
	"writkeep/keep"
	"writkeep/realm"
	"writkeep/tree"
)

// die: numbers that look drawn, the same each time.
type die uint64

func (d *die) n(most int) int {
	*d = *d*6364136223846793005 + 1442695040888963407
	return int(uint64(*d>>33) % uint64(most))
}

// drawn deed.
func drawn(d *die) deed {
	p, q := place(1+d.n(3), d.n(6)), place(1+d.n(4), d.n(6))
	a, b := d.n(8), d.n(4)
	switch d.n(12) {
	case 0, 1:
		return cell(p)
	case 2:
		return port(p)
	case 3, 4, 5:
		return give(p, q, a, []int{0, 0, 7, 100}[b])
	case 6:
		return func(r api.Realm) (api.Realm, error) { return realm.Move(r, p, q.Slot) }
	case 7:
		return write(p, "data"[b:])
	case 8:
		return send(p, "note"[b:], a-2, q.Slot)
	case 9:
		return take(p)
	case 10:
		return revoke(p)
	}
	return drop(p)
}

// often: so many drawn deeds as one, those that may not be left out.
func often(d *die, n int) deed {
	var deeds []deed
	for range n {
		deeds = append(deeds, drawn(d))
	}
	return func(r api.Realm) (api.Realm, error) {
		for _, d := range deeds {
			if x, err := d(r); err == nil {
				r = x
			}
		}
		return r, nil
	}
}

// TestKDrawn: a realm that is kept is what one would be that isn't; when it is opened anew nothing waits.
func TestKDrawn(t *testing.T) {
	draw := die(111)
	for range 40 {
		d, k := formatted(t)
		want := realm.New()
		for range 150 {
			w := drawn(&draw)
			x, err := w(realm.Copy(want))
			if got := k.Do(w); got != err {
				t.Fatalf("Do: %v, not %v", got, err)
			}
			if err == nil {
				want = x
			}
			has(t, k, want)
			switch draw.n(12) {
			case 0:
				does(t, k.Save())
			case 1:
				d.Restart(uint64(draw.n(1 << 30)))
				want = realm.Quiet(want)
				k = opened(t, d, want)
			}
		}
	}
}

// keeps: of the writes that weren't flushed none, all, any single one, and all but one. (They aren't more than the steps up to the fall.)
func keeps(steps int) []uint64 {
	l := []uint64{0, ^uint64(0)}
	for i := range min(steps, 64) {
		l = append(l, 1<<i, ^uint64(1<<i))
	}
	return l
}

// fallen: something is done to a keep that is opened on a twin of a disk, with a fall at a step, behind which some of what was written is kept. It tells the twin, the realm that is there then, and whether it fell.
func fallen(t *testing.T, on *disk.Disk, do func(*keep.Keep) error, step int, keeping uint64) (*disk.Disk, api.Realm, bool) {
	t.Helper()
	d := twin(t, on)
	k, err := keep.Open(d)
	does(t, err)
	d.Arm(step)
	err = do(k)
	fell := d.Down()
	if fell != (err == error(api.ErrDown)) || !fell && err != nil {
		t.Fatalf("step %d: %v, and it is down: %v", step, err, fell)
	}
	d.Restart(keeping)
	k, err = keep.Open(d)
	if err != nil {
		t.Fatalf("step %d, keep %x: Open, behind a fall: %v", step, keeping, err)
	}
	return d, k.Realm(), fell
}

func doing(w deed) func(*keep.Keep) error {
	return func(k *keep.Keep) error { return k.Do(w) }
}

func saving(k *keep.Keep) error { return k.Save() }

// TestK2Falls: a fall at each step of what is done, and of a save: the realm is as it was, or as it would have become, whole.
func TestK2Falls(t *testing.T) {
	draw := die(112)
	for round := range 60 {
		d, k := formatted(t)
		for range draw.n(25) {
			does(t, k.Do(often(&draw, 4)))
		}
		was := realm.Quiet(k.Realm())
		w := often(&draw, 1+draw.n(5))
		do, next := doing(w), realm.Quiet(did(t, was, w))
		if round%4 == 0 {
			do, next = saving, was
		}
		for step, fell := 0, true; fell; step++ {
			for _, keeping := range keeps(step) {
				var got api.Realm
				_, got, fell = fallen(t, d, do, step, keeping)
				if !same(got, next) && !(fell && same(got, was)) {
					t.Fatalf("step %d, keep %x, fell %v: %v, neither %v nor %v", step, keeping, fell, got, was, next)
				}
			}
		}
	}
}

// TestK2FallsTwice: falls one behind the other, at any steps: each leaves what was there, or what would have been.
func TestK2FallsTwice(t *testing.T) {
	draw := die(113)
	for range 60 {
		d, k := formatted(t)
		does(t, k.Do(farm()))
		now := k.Realm()
		for range 40 {
			w := often(&draw, 1+draw.n(4))
			do, next := doing(w), realm.Quiet(did(t, now, w))
			if draw.n(4) == 0 {
				do, next = saving, now
			}
			var got api.Realm
			var fell bool
			d, got, fell = fallen(t, d, do, draw.n(22), []uint64{0, ^uint64(0), 1 << draw.n(9), uint64(draw.n(1 << 30))}[draw.n(4)])
			if !same(got, next) && !(fell && same(got, now)) {
				t.Fatalf("fell %v: %v, neither %v nor %v", fell, got, now, next)
			}
			now = got
		}
	}
}

// TestWRevoked: what was taken back stays so, whatever falls behind it; where it falls in it, all that was made is there still, or nothing.
func TestWRevoked(t *testing.T) {
	d, k := formatted(t)
	does(t, k.Do(farm()))
	beneath := tree.Beneath(k.Realm().Writs, 2)
	if len(beneath) != 2 {
		t.Fatalf("beneath: %v", beneath)
	}
	for step, fell := 0, true; fell; step++ {
		for _, keeping := range keeps(step) {
			var x *disk.Disk
			var r api.Realm
			x, r, fell = fallen(t, d, doing(revoke(place(1, 1))), step, keeping)
			left := len(tree.Beneath(r.Writs, 2))
			if left != 0 && !(fell && left == 2) {
				t.Fatalf("step %d, keep %x: %d writs beneath", step, keeping, left)
			}
			if left > 0 {
				continue
			}
			for again := range 5 {
				_, r, _ = fallen(t, x, doing(write(place(1, 1), "x")), again, keeping)
				if _, err := realm.Get(r, place(3, 3)); err != error(api.ErrNone) {
					t.Fatalf("what was revoked is there: %v", err)
				}
			}
		}
	}
}

// TestWRows: behind any fall what is on the disk are rows of a realm that goes together.
func TestWRows(t *testing.T) {
	draw := die(114)
	d, k := formatted(t)
	for range 400 {
		d.Arm(draw.n(40))
		_ = k.Do(often(&draw, 3))
		d.Restart(uint64(draw.n(1<<30)) << draw.n(30))
		var err error
		k, err = keep.Open(d)
		does(t, err)
		if _, err := image.Parse(image.Rows(k.Realm())); err != nil {
			t.Fatalf("rows: %v", err)
		}
		if err := tree.Check(k.Realm().Writs); err != nil {
			t.Fatalf("writs: %v", err)
		}
	}
}
