package realm_test

import (
	"math"
	"slices"
	"strings"
	"testing"

	"writkeep/api"
	"writkeep/realm"
)

// answer: all that a call may answer.
type answer struct {
	realm api.Realm
	writ  api.Writ
	text  string
	note  api.Note
	slot  int
	err   error
}

// call of the package, of any realm.
type call func(r api.Realm) answer

func altered(r api.Realm, err error) answer { return answer{realm: r, err: err} }

func get(p api.Place) call {
	return func(r api.Realm) answer {
		w, err := realm.Get(r, p)
		return answer{writ: w, err: err}
	}
}

func makes(p api.Place, kind int) call {
	return func(r api.Realm) answer { return altered(realm.Make(r, p, kind)) }
}

func give(from, to api.Place, rights, badge int) call {
	return func(r api.Realm) answer { return altered(realm.Give(r, from, to, rights, badge)) }
}

func move(from api.Place, slot int) call {
	return func(r api.Realm) answer { return altered(realm.Move(r, from, slot)) }
}

func drop(p api.Place) call {
	return func(r api.Realm) answer { return altered(realm.Drop(r, p)) }
}

func revoke(p api.Place) call {
	return func(r api.Realm) answer { return altered(realm.Revoke(r, p)) }
}

func read(p api.Place) call {
	return func(r api.Realm) answer {
		s, err := realm.Read(r, p)
		return answer{text: s, err: err}
	}
}

func write(p api.Place, data string) call {
	return func(r api.Realm) answer { return altered(realm.Write(r, p, data)) }
}

func send(p api.Place, data string, slot, rights int) call {
	return func(r api.Realm) answer { return altered(realm.Send(r, p, data, slot, rights)) }
}

func take(p api.Place) call {
	return func(r api.Realm) answer {
		x, n, slot, err := realm.Take(r, p)
		return answer{realm: x, note: n, slot: slot, err: err}
	}
}

// fails: the call must answer that error, and all else must be its zero value.
func fails(t *testing.T, name string, r api.Realm, c call, want error) {
	t.Helper()
	was := realm.Copy(r)
	a := c(r)
	if a.err != want {
		t.Errorf("%s: %v, not %v", name, a.err, want)
	}
	if !same(a.realm, api.Realm{}) || a.writ != (api.Writ{}) || a.text != "" || a.note != (api.Note{}) || a.slot != 0 {
		t.Errorf("%s: beside the error: %v", name, a)
	}
	if !same(r, was) {
		t.Errorf("%s: the realm that was handed in is %v, not %v", name, r, was)
	}
}

// poor: a realm of which holder 2 has, by slot: 0: a port, with Alter and Grant, badge 7; 1: it with Look; 2: a cell, with Look, badge 4; 3: a cell, with all but Grant; 4: the port, with Alter. The next writ has that number.
func poor(t *testing.T, next int) *story {
	s := spent(t, next-6)
	s.cell(1, 1)
	s.give(place(1, 0), place(2, 0), 6, 7)
	s.give(place(1, 0), place(2, 1), 1, 0)
	s.give(place(1, 1), place(2, 2), 1, 4)
	s.give(place(1, 1), place(2, 3), 3, 0)
	s.give(place(1, 0), place(2, 4), 2, 0)
	if s.r.NextWrit != next {
		t.Fatalf("the next writ is %d", s.r.NextWrit)
	}
	return s
}

const long = "123456789"

// TestZ3First: of several errors the one named first; with each all else is its zero value, and the realm as it was.
func TestZ3First(t *testing.T) {
	some, none := poor(t, 50).r, poor(t, 1000).r
	full := poor(t, 50)
	for range 3 {
		full.send(2, 0, "x")
	}
	things := begin(t)
	for i := range 10 {
		things.port(1+i/6, i%6)
	}
	nowhere, empty, p := place(9, 9), place(4, 0), func(slot int) api.Place { return place(2, slot) }
	for name, c := range map[string]struct {
		r    api.Realm
		do   call
		want error
	}{
		"make: kind, place":                     {some, makes(nowhere, 0), api.ErrKind},
		"make: kind, taken":                     {some, makes(p(0), 3), api.ErrKind},
		"make: kind, far":                       {some, makes(empty, math.MinInt), api.ErrKind},
		"make: kind, full":                      {things.r, makes(empty, 3), api.ErrKind},
		"make: place":                           {some, makes(place(2, 6), 1), api.ErrBound},
		"make: place, full":                     {things.r, makes(nowhere, 1), api.ErrBound},
		"make: taken":                           {some, makes(p(4), 1), api.ErrTaken},
		"make: taken, full":                     {things.r, makes(place(1, 5), 1), api.ErrTaken},
		"make: taken, run out":                  {none, makes(p(4), 1), api.ErrTaken},
		"make: full":                            {things.r, makes(empty, 1), api.ErrFull},
		"make: run out":                         {none, makes(empty, 2), api.ErrFull},
		"give: from":                            {some, give(nowhere, empty, 1, 0), api.ErrBound},
		"give: from, to is taken":               {some, give(place(2, -1), p(0), 1, 0), api.ErrBound},
		"give: none, to":                        {some, give(empty, nowhere, 1, 0), api.ErrNone},
		"give: none, to is taken":               {some, give(empty, p(0), 1, 0), api.ErrNone},
		"give: none, run out":                   {none, give(empty, place(4, 1), 1, 0), api.ErrNone},
		"give: none, rights":                    {some, give(empty, place(4, 1), 9, 0), api.ErrNone},
		"give: to, right":                       {some, give(p(1), place(5, 0), 1, 0), api.ErrBound},
		"give: to, of the same holder":          {some, give(p(0), place(2, 6), 2, 0), api.ErrBound},
		"give: to, run out":                     {none, give(p(0), place(4, 6), 2, 0), api.ErrBound},
		"give: taken, right":                    {some, give(p(1), place(1, 0), 1, 0), api.ErrTaken},
		"give: taken, by itself":                {some, give(p(0), p(0), 2, 0), api.ErrTaken},
		"give: taken, run out":                  {none, give(p(0), p(1), 2, 0), api.ErrTaken},
		"give: right":                           {some, give(p(3), empty, 3, 0), api.ErrRight},
		"give: right, run out":                  {none, give(p(3), empty, 3, 0), api.ErrRight},
		"give: right, rights":                   {some, give(p(3), empty, 8, 0), api.ErrRight},
		"give: right, badge":                    {some, give(p(3), empty, 1, 100), api.ErrRight},
		"give: run out":                         {none, give(p(0), empty, 2, 0), api.ErrFull},
		"give: run out, rights":                 {none, give(p(0), empty, 8, 0), api.ErrFull},
		"give: run out, badge":                  {none, give(p(0), empty, 2, 100), api.ErrFull},
		"give: run out, more rights":            {none, give(p(0), empty, 7, 0), api.ErrFull},
		"give: rights":                          {some, give(p(0), empty, 8, 0), api.ErrBound},
		"give: rights, below":                   {some, give(p(0), p(5), -1, 0), api.ErrBound},
		"give: badge":                           {some, give(p(0), empty, 2, 100), api.ErrBound},
		"give: badge, below":                    {some, give(p(0), empty, 2, -1), api.ErrBound},
		"give: badge, more rights":              {some, give(p(0), empty, 7, 100), api.ErrBound},
		"give: more rights":                     {some, give(p(0), empty, 1, 0), api.ErrRight},
		"give: more rights, to itself":          {some, give(p(3), p(5), 7, 0), api.ErrRight},
		"give: another badge":                   {some, give(p(0), empty, 2, 8), api.ErrRight},
		"give: another badge, to itself":        {some, give(p(2), p(5), 1, 5), api.ErrRight},
		"move: from":                            {some, move(nowhere, 0), api.ErrBound},
		"move: none":                            {some, move(empty, 1), api.ErrNone},
		"move: none, slot":                      {some, move(empty, 6), api.ErrNone},
		"move: slot":                            {some, move(p(0), 6), api.ErrBound},
		"move: slot, below":                     {some, move(p(0), -1), api.ErrBound},
		"move: slot, far":                       {some, move(p(0), math.MaxInt), api.ErrBound},
		"move: taken":                           {some, move(p(0), 1), api.ErrTaken},
		"move: taken, by itself":                {some, move(p(0), 0), api.ErrTaken},
		"drop: place":                           {some, drop(nowhere), api.ErrBound},
		"drop: none":                            {some, drop(p(5)), api.ErrNone},
		"revoke: place":                         {some, revoke(place(0, 0)), api.ErrBound},
		"revoke: none":                          {some, revoke(p(5)), api.ErrNone},
		"get: place":                            {some, get(nowhere), api.ErrBound},
		"get: none":                             {some, get(p(5)), api.ErrNone},
		"read: place":                           {some, read(nowhere), api.ErrBound},
		"read: none":                            {some, read(p(5)), api.ErrNone},
		"read: kind":                            {some, read(p(1)), api.ErrKind},
		"read: kind, right":                     {some, read(p(0)), api.ErrKind},
		"write: place, many":                    {some, write(place(2, 9), long), api.ErrBound},
		"write: none, many":                     {some, write(p(5), long), api.ErrNone},
		"write: kind, many":                     {some, write(p(0), long), api.ErrKind},
		"write: kind, right":                    {some, write(p(1), "x"), api.ErrKind},
		"write: right":                          {some, write(p(2), "x"), api.ErrRight},
		"write: right, many":                    {some, write(p(2), long), api.ErrRight},
		"write: many":                           {some, write(p(3), long), api.ErrMany},
		"write: many more":                      {some, write(p(3), strings.Repeat("x", 1000)), api.ErrMany},
		"send: place, many":                     {some, send(nowhere, long, -1, 0), api.ErrBound},
		"send: none, many":                      {some, send(p(5), long, -1, 0), api.ErrNone},
		"send: kind, right":                     {some, send(p(2), "x", -1, 0), api.ErrKind},
		"send: kind, many":                      {some, send(p(3), long, -1, 0), api.ErrKind},
		"send: right":                           {some, send(p(1), "x", -1, 0), api.ErrRight},
		"send: right, many":                     {some, send(p(1), long, -1, 0), api.ErrRight},
		"send: right, full":                     {full.r, send(p(1), "x", -1, 0), api.ErrRight},
		"send: many":                            {some, send(p(0), long, -1, 0), api.ErrMany},
		"send: many, full":                      {full.r, send(p(0), long, -1, 0), api.ErrMany},
		"send: many, grant":                     {some, send(p(4), long, 2, 1), api.ErrMany},
		"send: full":                            {full.r, send(p(4), "x", -1, 0), api.ErrFull},
		"send: full, grant":                     {full.r, send(p(4), "x", 2, 1), api.ErrFull},
		"send: full, slot":                      {full.r, send(p(0), "x", 6, 1), api.ErrFull},
		"send: full, none":                      {full.r, send(p(0), "x", 5, 1), api.ErrFull},
		"send: full, rights":                    {full.r, send(p(0), "x", 2, 8), api.ErrFull},
		"send: grant":                           {some, send(p(4), "x", 2, 1), api.ErrRight},
		"send: grant, slot":                     {some, send(p(4), "x", 6, 1), api.ErrRight},
		"send: grant, none":                     {some, send(p(4), "x", 5, 1), api.ErrRight},
		"send: grant, run out":                  {none, send(p(4), "x", 2, 1), api.ErrRight},
		"send: grant, rights":                   {some, send(p(4), "x", 2, 8), api.ErrRight},
		"send: slot":                            {some, send(p(0), "x", 6, 1), api.ErrBound},
		"send: slot, far":                       {some, send(p(0), "x", math.MaxInt, 1), api.ErrBound},
		"send: slot, run out":                   {none, send(p(0), "x", 6, 1), api.ErrBound},
		"send: none of the slot":                {some, send(p(0), "x", 5, 1), api.ErrNone},
		"send: none of the slot, run out":       {none, send(p(0), "x", 5, 1), api.ErrNone},
		"send: none of the slot, rights":        {some, send(p(0), "x", 5, 8), api.ErrNone},
		"send: run out":                         {none, send(p(0), "x", 2, 1), api.ErrFull},
		"send: run out, rights":                 {none, send(p(0), "x", 2, 8), api.ErrFull},
		"send: run out, more rights":            {none, send(p(0), "x", 2, 7), api.ErrFull},
		"send: rights":                          {some, send(p(0), "x", 2, 8), api.ErrBound},
		"send: rights, below":                   {some, send(p(0), "x", 2, -1), api.ErrBound},
		"send: more rights":                     {some, send(p(0), "x", 2, 3), api.ErrRight},
		"send: more rights than the port's has": {some, send(p(0), "x", 0, 7), api.ErrRight},
		"take: place":                           {some, take(nowhere), api.ErrBound},
		"take: none":                            {some, take(p(5)), api.ErrNone},
		"take: kind":                            {some, take(p(2)), api.ErrKind},
		"take: right":                           {full.r, take(p(0)), api.ErrRight},
		"take: right, no note":                  {some, take(p(0)), api.ErrRight},
		"take: no note":                         {some, take(p(1)), api.ErrNone},
	} {
		fails(t, name, c.r, c.do, c.want)
	}
	for _, p := range wrongPlaces() {
		for name, c := range map[string]call{
			"make": makes(p, 1), "give": give(p, empty, 0, 0), "give to": give(place(1, 0), p, 0, 0), "move": move(p, 1), "drop": drop(p),
			"revoke": revoke(p), "get": get(p), "read": read(p), "write": write(p, ""), "send": send(p, "", -1, 0), "take": take(p),
		} {
			fails(t, name+" at a wrong place", some, c, api.ErrBound)
		}
	}
}

// calls that go well of the busy realm.
func calls() map[string]call {
	return map[string]call{
		"New":         func(api.Realm) answer { return answer{realm: realm.New()} },
		"Copy":        func(r api.Realm) answer { return answer{realm: realm.Copy(r)} },
		"Quiet":       func(r api.Realm) answer { return answer{realm: realm.Quiet(r)} },
		"Get":         get(place(2, 1)),
		"Make":        makes(place(1, 3), api.Cell),
		"Give":        give(place(1, 1), place(2, 5), 7, 5),
		"Move":        move(place(1, 0), 4),
		"Move down":   move(place(2, 1), 2),
		"Drop":        drop(place(2, 1)),
		"Drop a port": drop(place(1, 2)),
		"Drop a leaf": drop(place(3, 0)),
		"Revoke":      revoke(place(1, 1)),
		"Revoke none": revoke(place(3, 0)),
		"Read":        read(place(3, 0)),
		"Write":       write(place(1, 1), "oats"),
		"Send":        send(place(1, 2), "x", -1, 0),
		"Send with":   send(place(1, 0), "x", 1, 1),
		"Take":        take(place(1, 0)),
		"Take with":   take(place(1, 2)),
	}
}

// spare: a realm whose lists have something behind them in memory that would be seen in an answer; and all of that memory.
func spare(r api.Realm) (api.Realm, api.Realm) {
	all := api.Realm{
		Writs:  append(slices.Clone(r.Writs), api.Writ{ID: 20, Thing: 2, Rights: 7, From: 5}, api.Writ{ID: 21, Thing: 20}),
		Things: append(slices.Clone(r.Things), api.Thing{ID: 20, Kind: 1}, api.Thing{ID: 21, Kind: 2}),
		Held:   append(slices.Clone(r.Held), held(4, 0, 20), held(4, 1, 21)),
		Notes:  append(slices.Clone(r.Notes), api.Note{Port: 1, Writ: 20}, api.Note{Port: 3, Writ: 21}),
	}
	r.Writs, r.Things = all.Writs[:len(r.Writs)], all.Things[:len(r.Things)]
	r.Held, r.Notes = all.Held[:len(r.Held)], all.Notes[:len(r.Notes)]
	return r, all
}

// scribble over all of the memory of a realm's lists, what stands behind them too.
func scribble(r api.Realm) {
	fill(r.Writs, api.Writ{ID: -7})
	fill(r.Things, api.Thing{ID: -7})
	fill(r.Held, held(7, 7, 7))
	fill(r.Notes, api.Note{Port: -7})
}

func fill[T any](l []T, v T) {
	l = l[:cap(l)]
	for i := range l {
		l[i] = v
	}
}

// TestZ2: a realm that is handed in is as it was, nothing behind its lists is read, and an answer shares no memory with it, nor with another answer; also where little is changed, as nothing waits.
func TestZ2(t *testing.T) {
	for _, r := range []api.Realm{busy(t), realm.Quiet(busy(t)), realm.New()} {
		for name, c := range calls() {
			ownMemory(t, name, r, c)
		}
	}
}

func ownMemory(t *testing.T, name string, r api.Realm, c call) {
	t.Helper()
	with, all := spare(r)
	was := realm.Copy(all)
	want, a, again := c(r), c(with), c(with)
	if len(r.Notes) > 0 && want.err != nil {
		t.Errorf("%s: %v", name, want.err)
	}
	if !alike(a, want) {
		t.Errorf("%s: %v, not %v: it sees what stands behind", name, a, want)
	}
	scribble(a.realm)
	if !alike(again, want) {
		t.Errorf("%s: two answers share memory", name)
	}
	if !same(all, was) {
		t.Errorf("%s: the realm was written into, or shared: %v, not %v", name, all, was)
	}
}

// alike: are two answers the same?
func alike(a, b answer) bool {
	return same(a.realm, b.realm) && a.writ == b.writ && a.text == b.text && a.note == b.note && a.slot == b.slot && a.err == b.err
}

// TestZ2Again: the same call of the same realm answers the same, whatever was called in between.
func TestZ2Again(t *testing.T) {
	r := busy(t)
	first := map[string]answer{}
	for name, c := range calls() {
		first[name] = c(r)
	}
	for name, c := range calls() {
		if a, was := c(r), first[name]; !alike(a, was) {
			t.Errorf("%s: %v, not %v", name, a, was)
		}
	}
}
