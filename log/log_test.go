package log_test

import (
	"encoding/binary"
	"math"
	"slices"
	"strings"
	"testing"

	"writkeep/api"
	"writkeep/disk"
	"writkeep/log"
	"writkeep/row"
)

// die: numbers that look drawn, the same each time.
type die uint64

func (d *die) n(most int) int {
	*d = *d*6364136223846793005 + 1442695040888963407
	return int(uint64(*d>>33) % uint64(most))
}

func long(n int) string { return strings.Repeat("k", n) }

func is(key, val string) api.Change { return api.Change{Key: key, Val: val} }

func gone(key string) api.Change { return api.Change{Key: key, Gone: true} }

// many changes that may be, no two of them the same.
func many(n int) []api.Change {
	var l []api.Change
	for i := range n {
		l = append(l, is("r"+string(rune('!'+i)), long(i%25)))
	}
	return l
}

// fresh disk of so many sectors.
func fresh(t *testing.T, n int) *disk.Disk {
	t.Helper()
	d, err := disk.New(n)
	if err != nil {
		t.Fatal(err)
	}
	return d
}

// lay sectors on a disk, for good.
func lay(t *testing.T, d *disk.Disk, from int, sectors ...string) {
	t.Helper()
	for i, s := range sectors {
		if err := d.Write(from+i, s); err != nil {
			t.Fatal(err)
		}
	}
	if err := d.Flush(); err != nil {
		t.Fatal(err)
	}
}

// sectorsOf a disk.
func sectorsOf(t *testing.T, d *disk.Disk) []string {
	t.Helper()
	var l []string
	for at := range d.Sectors() {
		s, err := d.Read(at)
		if err != nil {
			t.Fatal(err)
		}
		l = append(l, s)
	}
	return l
}

// sector as the document says it: a byte, the number, how many bytes follow, these.
func sector(kind byte, number uint32, text string) string {
	b := binary.LittleEndian.AppendUint32([]byte{kind}, number)
	b = binary.LittleEndian.AppendUint16(b, uint16(len(text)))
	return string(b) + text
}

func bytesOf(c api.Change) string {
	s, err := row.Bytes(c)
	if err != nil {
		panic(err)
	}
	return s
}

func count(n uint32) string { return string(binary.LittleEndian.AppendUint32(nil, n)) }

// deedOf changes, as sectors whose first one has that number.
func deedOf(number uint32, l ...api.Change) []string {
	var out []string
	for _, c := range l {
		out = append(out, sector('o', number, bytesOf(c)))
		number++
	}
	return append(out, sector('c', number, count(uint32(len(l)))))
}

func padded(s string) string { return s + strings.Repeat("\x00", api.Sector-len(s)) }

func same(a, b [][]api.Change) bool { return slices.EqualFunc(a, b, slices.Equal[[]api.Change]) }

// opened: the log must have these deeds, and that room.
func opened(t *testing.T, d *disk.Disk, from, size, first int, want [][]api.Change, room int) *log.Log {
	t.Helper()
	l, deeds, err := log.Open(d, from, size, first)
	if err != nil || l == nil {
		t.Fatalf("Open(%d, %d, %d): %v", from, size, first, err)
	}
	if !same(deeds, want) {
		t.Fatalf("Open(%d, %d, %d): %#v, not %#v", from, size, first, deeds, want)
	}
	if l.Room() != room || l.Next() != first+size {
		t.Fatalf("Room() = %d, Next() = %d, not %d, %d", l.Room(), l.Next(), room, first+size)
	}
	return l
}

// adds: it must go well.
func adds(t *testing.T, l *log.Log, c ...api.Change) {
	t.Helper()
	room := l.Room()
	if err := l.Add(c); err != nil {
		t.Fatalf("Add of %d changes, with room for %d sectors: %v", len(c), room, err)
	}
	if l.Room() != room-len(c)-1 {
		t.Fatalf("Room() = %d, behind a deed of %d changes in %d", l.Room(), len(c), room)
	}
}

func TestI1Bounds(t *testing.T) {
	d := fresh(t, 12)
	for _, c := range [][3]int{
		{-1, 3, 1}, {0, 0, 1}, {0, 3, 0}, {0, -1, 1}, {0, 3, -1}, {0, 13, 1}, {1, 12, 1}, {12, 1, 1}, {11, 2, 1}, {13, 1, 1}, {-1, -1, -1},
		{math.MinInt, 1, 1}, {math.MaxInt, 1, 1}, {0, math.MaxInt, 1}, {0, math.MinInt, 1}, {0, 1, math.MinInt}, {1, math.MaxInt, 1},
		{math.MaxInt, math.MaxInt, 1}, {math.MinInt, math.MaxInt, 1}, {-5, 10, 1},
	} {
		l, deeds, err := log.Open(d, c[0], c[1], c[2])
		if err != error(api.ErrBound) || l != nil || len(deeds) != 0 {
			t.Errorf("Open(%v): %v %v %v", c, l, deeds, err)
		}
	}
	for _, c := range [][3]int{{0, 12, 1}, {0, 1, 1}, {11, 1, 1}, {3, 9, 7}, {5, 4, 1 << 40}} {
		opened(t, d, c[0], c[1], c[2], nil, c[1])
	}
}

// TestI1Down: what is down isn't opened; to read is no step.
func TestI1Down(t *testing.T) {
	d := fresh(t, 12)
	lay(t, d, 0, deedOf(1, is("a", "b"))...)
	d.Arm(0)
	opened(t, d, 0, 12, 1, [][]api.Change{{is("a", "b")}}, 10)
	if d.Flush() == nil {
		t.Fatal("it isn't down")
	}
	l, deeds, err := log.Open(d, 0, 12, 1)
	if err != error(api.ErrDown) || l != nil || len(deeds) != 0 {
		t.Errorf("Open of what is down: %v %v %v", l, deeds, err)
	}
	for _, c := range [][3]int{{0, 13, 1}, {-1, 3, 1}, {12, 1, 1}, {0, 0, 1}, {0, 12, 0}} {
		if _, _, err = log.Open(d, c[0], c[1], c[2]); err != error(api.ErrBound) {
			t.Errorf("Open(%v) of what is down: %v", c, err)
		}
	}
}

// TestI1Laid: deeds are read from sectors as the document says them, whatever stands behind their bytes.
func TestI1Laid(t *testing.T) {
	for _, first := range []int{1, 7, 255, 256, 1<<32 - 2, 1 << 32, 1<<32 + 5, 1<<40 + 3, math.MaxInt - 12} {
		one, two := []api.Change{is("a", "1"), gone("bb"), is(long(8), long(24))}, []api.Change{is("c", "")}
		sectors := slices.Concat(deedOf(uint32(first), one...), deedOf(uint32(first+4), two...), deedOf(uint32(first+6)))
		for _, behind := range []string{"\x00", "\xff", "o"} {
			d := fresh(t, 12)
			for i, s := range sectors {
				lay(t, d, 3+i, s+strings.Repeat(behind, api.Sector-len(s)))
			}
			opened(t, d, 3, 9, first, [][]api.Change{one, two, nil}, 2)
			opened(t, d, 3, 7, first, [][]api.Change{one, two, nil}, 0)
			opened(t, d, 3, 6, first, [][]api.Change{one, two}, 0)
			opened(t, d, 3, 5, first, [][]api.Change{one}, 1)
			opened(t, d, 3, 3, first, nil, 3)
			opened(t, d, 3, 9, first+1, nil, 9)
			opened(t, d, 2, 9, first, nil, 9)
			opened(t, d, 4, 8, first, nil, 8)
		}
	}
}

// TestI1Stops: deeds end at the first sector that isn't right.
func TestI1Stops(t *testing.T) {
	one, two := []api.Change{is("a", "1"), is("b", "2")}, []api.Change{is("c", "3")}
	a := bytesOf(is("a", "1"))
	for name, s := range map[string]string{
		"noughts":                     "",
		"another letter":              sector('x', 3, a),
		"a great letter":              sector('O', 3, a),
		"no letter":                   sector(0, 3, a),
		"a lower number":              sector('o', 2, a),
		"a higher number":             sector('o', 4, a),
		"a number's high byte":        sector('o', 3|1<<24, a),
		"a number's second byte":      sector('o', 3|1<<8, a),
		"a number's third byte":       sector('o', 3|1<<16, a),
		"no bytes":                    sector('o', 3, ""),
		"no change's bytes":           sector('o', 3, "a"),
		"a change's bytes, too short": sector('o', 3, a[:2]),
		"a change that may not be":    sector('o', 3, "\x01\x01ab"),
		"too many bytes":              sector('o', 3, strings.Repeat("\x00", 42))[:48],
		"far too many bytes":          "o\x03\x00\x00\x00\x04\x01" + a,
		"an end with too great a one": sector('c', 3, count(3)),
		"an end with too small a one": sector('c', 3, count(1)),
		"an end with none":            sector('c', 3, count(0)),
		"an end's high byte":          sector('c', 3, count(2|1<<24)),
		"an end of another number":    sector('c', 4, count(2)),
		"an end of three bytes":       sector('c', 3, "\x02\x00\x00"),
		"an end of five bytes":        sector('c', 3, count(2)+"\x00"),
		"an end of no bytes":          sector('c', 3, ""),
		"an end with a change":        sector('c', 3, a),
		"a change instead of an end":  sector('o', 3, count(2)),
	} {
		d := fresh(t, 6)
		lay(t, d, 0, slices.Concat(deedOf(1, one...), deedOf(4, two...))...)
		opened(t, d, 0, 6, 1, [][]api.Change{one, two}, 1)
		lay(t, d, 2, s)
		if _, deeds, err := log.Open(d, 0, 6, 1); len(deeds) != 0 || err != nil {
			t.Errorf("%s: %v %v", name, deeds, err)
		}
		lay(t, d, 0, slices.Concat(deedOf(1, is("z", "")), deedOf(3), deedOf(4))...)
		lay(t, d, 2, s)
		if name != "an end with none" {
			if _, deeds, err := log.Open(d, 0, 6, 1); len(deeds) != 1 || err != nil {
				t.Errorf("%s, behind a deed: %v %v", name, deeds, err)
			}
		}
	}
	d := fresh(t, 6)
	lay(t, d, 0, slices.Concat(deedOf(1, one...), []string{sector('o', 4, a), sector('o', 5, a), sector('o', 6, a)})...)
	opened(t, d, 0, 6, 1, [][]api.Change{one}, 3)
}

// TestI1Long: who wrote more changes than may be added wrote a deed.
func TestI1Long(t *testing.T) {
	d := fresh(t, api.Sectors)
	lay(t, d, 0, deedOf(1, many(90)...)...)
	opened(t, d, 0, api.Sectors, 1, [][]api.Change{many(90)}, api.Sectors-91)
}

// drawn sector that has, or nearly has, that number.
func drawn(d *die, number uint32) string {
	if d.n(12) == 0 {
		number += uint32(d.n(3))
	}
	switch d.n(12) {
	case 0:
		return ""
	case 1:
		b := make([]byte, api.Sector)
		for i := range b {
			b[i] = byte(d.n(256))
		}
		return string(b)
	case 2:
		return sector('o', number, long(d.n(42)))
	case 3, 4, 5:
		return sector('c', number, count(uint32(d.n(3))))
	case 6:
		return sector('o', number, bytesOf(gone("g"))) + "behind"
	}
	return sector('o', number, bytesOf(is(string(rune('a'+d.n(26))), long(d.n(25)))))
}

// deedsOn sectors, by the document's words, and how many sectors they have.
func deedsOn(sectors []string, first int) (deeds [][]api.Change, end int) {
	var since []api.Change
	for i, s := range sectors {
		b := []byte(s)
		size := int(binary.LittleEndian.Uint16(b[5:]))
		if !strings.ContainsRune("oc", rune(b[0])) || binary.LittleEndian.Uint32(b[1:]) != uint32(uint64(first+i)%(1<<32)) || size > 48-7 {
			break
		}
		text := s[7 : 7+size]
		if b[0] == 'o' {
			c, err := row.Parse(text)
			if err != nil {
				break
			}
			since = append(since, c)
		} else {
			if size != 4 || binary.LittleEndian.Uint32([]byte(text)) != uint32(len(since)) {
				break
			}
			deeds, since, end = append(deeds, since), nil, i+1
		}
	}
	return deeds, end
}

// TestI1Any: sectors with any bytes are read as the document says; a deed that is added then stands behind those that were read, and no other behind it.
func TestI1Any(t *testing.T) {
	draw := die(91)
	found := 0
	for range 20000 {
		n := 1 + draw.n(10)
		from, first := draw.n(3), []int{1, 2, 1<<32 - 3, 1 << 33}[draw.n(4)]
		d := fresh(t, from+n+draw.n(2))
		for i := range n {
			lay(t, d, from+i, drawn(&draw, uint32(first+i)))
		}
		was := sectorsOf(t, d)
		deeds, end := deedsOn(was[from:from+n], first)
		found += len(deeds)
		l := opened(t, d, from, n, first, deeds, n-end)
		if !slices.Equal(sectorsOf(t, d), was) {
			t.Fatal("Open writes")
		}
		if c := many(draw.n(4)); len(c) < l.Room() {
			adds(t, l, c...)
			d.Restart(0)
			opened(t, d, from, n, first, append(deeds, c), n-end-len(c)-1)
		}
	}
	if found < 1000 {
		t.Errorf("just %d deeds among them", found)
	}
}

// TestI2Bytes: what is laid is as the document says it, and nothing beside it is altered.
func TestI2Bytes(t *testing.T) {
	for _, first := range []int{1, 300, 1<<32 - 2, 1 << 32, 1<<40 + 9} {
		d := fresh(t, 12)
		junk := strings.Repeat("j", api.Sector)
		for at := range 12 {
			lay(t, d, at, junk)
		}
		one, two := []api.Change{is("a", "1"), gone("b")}, []api.Change{is(long(8), long(24))}
		l := opened(t, d, 2, 7, first, nil, 7)
		adds(t, l, one...)
		adds(t, l, two...)
		adds(t, l)
		want := slices.Concat(deedOf(uint32(first), one...), deedOf(uint32(first+3), two...), deedOf(uint32(first+5)))
		got := sectorsOf(t, d)
		for i, s := range want {
			if !strings.HasPrefix(got[2+i], s) {
				t.Errorf("first %d: sector %d is %q, not %q", first, i, got[2+i], s)
			}
		}
		for _, at := range []int{0, 1, 9, 10, 11} {
			if got[at] != junk {
				t.Errorf("first %d: sector %d of the disk was altered", first, at)
			}
		}
	}
}

// TestI2Add: deeds stand one behind the other, for good, as soon as they are added.
func TestI2Add(t *testing.T) {
	d := fresh(t, 40)
	l := opened(t, d, 1, 39, 5, nil, 39)
	var want [][]api.Change
	room := 39
	for _, c := range [][]api.Change{many(3), nil, {gone("x"), gone("x")}, many(1), {}, many(20)} {
		adds(t, l, c...)
		want, room = append(want, c), room-len(c)-1
		opened(t, d, 1, 39, 5, want, room)
		d.Restart(0)
		opened(t, d, 1, 39, 5, want, room)
	}
	l = opened(t, d, 1, 39, 5, want, room)
	adds(t, l, many(2)...)
	opened(t, d, 1, 39, 5, append(want, many(2)), room-3)
}

// TestI2Full: a deed that fills the log goes in, one more sector doesn't.
func TestI2Full(t *testing.T) {
	for ahead := range 4 {
		for n := range 6 {
			d := fresh(t, 12)
			size := ahead + n + 1 + 1
			l := opened(t, d, 0, size, 1, nil, size)
			adds(t, l, many(ahead)...)
			refuses(t, d, l, many(n+1), api.ErrFull)
			adds(t, l, many(n)...)
			if l.Room() != 0 {
				t.Fatalf("Room() = %d", l.Room())
			}
			refuses(t, d, l, nil, api.ErrFull)
			refuses(t, d, l, many(1), api.ErrFull)
			d.Restart(0)
			l = opened(t, d, 0, size, 1, [][]api.Change{many(ahead), many(n)}, 0)
			refuses(t, d, l, nil, api.ErrFull)
		}
	}
}

// refuses: the error is told, and neither the log nor the disk is altered.
func refuses(t *testing.T, d *disk.Disk, l *log.Log, c []api.Change, want api.Errno) {
	t.Helper()
	was, room, next := sectorsOf(t, d), l.Room(), l.Next()
	d.Arm(0)
	if err := l.Add(c); err != error(want) {
		t.Errorf("Add of %d changes: %v, not %v", len(c), err, want)
	}
	if d.Down() {
		t.Fatal("a step was taken")
	}
	d.Arm(-1)
	if l.Room() != room || l.Next() != next || !slices.Equal(sectorsOf(t, d), was) {
		t.Error("something was altered")
	}
}

func TestI2Many(t *testing.T) {
	d := fresh(t, api.Sectors)
	l := opened(t, d, 0, api.Sectors, 1, nil, api.Sectors)
	refuses(t, d, l, many(api.MaxChanges+1), api.ErrMany)
	adds(t, l, many(api.MaxChanges)...)
	opened(t, d, 0, api.Sectors, 1, [][]api.Change{many(api.MaxChanges)}, api.Sectors-63)
}

// wrongs: changes that may not be, and what is said of them.
var wrongs = map[api.Change]api.Errno{
	{}:                                    api.ErrShape,
	{Key: "a", Val: "v", Gone: true}:      api.ErrShape,
	{Key: "kkkkkkkkk"}:                    api.ErrMany,
	{Key: "a", Val: long(api.MaxVal + 1)}: api.ErrMany,
}

func TestI2Check(t *testing.T) {
	d := fresh(t, 20)
	l := opened(t, d, 0, 20, 1, nil, 20)
	adds(t, l, is("a", "b"))
	for c, want := range wrongs {
		for at := range 4 {
			refuses(t, d, l, slices.Insert(many(3), at, c), want)
		}
	}
	refuses(t, d, l, []api.Change{is("a", ""), is(long(9), ""), {}}, api.ErrMany)
	refuses(t, d, l, []api.Change{is("a", ""), {}, is(long(9), "")}, api.ErrShape)
}

// TestZ3First: too many, then no room, then what may not be, then what is down.
func TestZ3First(t *testing.T) {
	d := fresh(t, 5)
	l := opened(t, d, 0, 3, 1, nil, 3)
	refuses(t, d, l, append(many(api.MaxChanges), api.Change{}), api.ErrMany)
	refuses(t, d, l, []api.Change{{}, {}, {}}, api.ErrFull)
	d.Arm(0)
	if d.Flush() == nil {
		t.Fatal("it isn't down")
	}
	for _, c := range []struct {
		c    []api.Change
		want api.Errno
	}{{many(63), api.ErrMany}, {many(3), api.ErrFull}, {make([]api.Change, 1), api.ErrShape}, {many(1), api.ErrDown}, {nil, api.ErrDown}} {
		if err := l.Add(c.c); err != error(c.want) || l.Room() != 3 {
			t.Errorf("Add of %d to what is down: %v, not %v; room %d", len(c.c), err, c.want, l.Room())
		}
	}
}

// TestZ2: changes that are handed in are as they were, with what stands behind them, and deeds are the caller's own.
func TestZ2(t *testing.T) {
	d := fresh(t, 30)
	l := opened(t, d, 0, 30, 1, nil, 30)
	c := append(many(4), api.Change{}, gone("behind"))
	was := slices.Clone(c)
	adds(t, l, c[:3]...)
	adds(t, l, c[3:4]...)
	adds(t, l)
	if !slices.Equal(c, was) {
		t.Error("Add writes into what is handed in")
	}
	for i := range c {
		c[i] = is("mine", "")
	}
	_, a, _ := log.Open(d, 0, 30, 1)
	_, b, _ := log.Open(d, 0, 30, 1)
	want := [][]api.Change{was[:3], was[3:4], nil}
	if !same(a, want) || !same(b, want) {
		t.Fatalf("%v %v, not %v", a, b, want)
	}
	for i := range a {
		mine := a[i][:cap(a[i])]
		for k := range mine {
			mine[k] = is("mine", "")
		}
		if i+1 < len(a) && !same(a[i+1:], want[i+1:]) {
			t.Error("two deeds share memory")
		}
	}
	a = append(a[:1], nil, nil)
	if !same(b, want) {
		t.Error("two answers share memory")
	}
	opened(t, d, 0, 30, 1, want, 23)
}
