package buffer_test

import (
	"math"
	"slices"
	"testing"

	"warrener/api"
	"warrener/buffer"
)

const (
	least = math.MinInt
	most  = math.MaxInt
)

// rooms are what may be asked for, and the room that is had: all that there are, what is about both bounds, those that are some room when they are cut to fewer bits, and both ends.
var rooms = []struct{ asked, had int }{
	{0, 0}, {1, 1}, {2, 2}, {3, 3}, {4, 4}, {5, 4}, {6, 4}, {7, 4}, {8, 4}, {255, 4}, {256, 4}, {257, 4},
	{-1, 0}, {-2, 0}, {-4, 0}, {-255, 0}, {-256, 0}, {-1 << 31, 0}, {-1<<32 + 3, 0},
	{1<<16 + 2, 4}, {1 << 31, 4}, {1<<32 + 1, 4}, {1<<62 + 3, 4},
	{least, 0}, {least + 1, 0}, {least + 3, 0}, {most, 4}, {most - 1, 4},
}

// values are what each of an entry's parts may be.
var values = []int{least, -1, 0, 1, most}

// parts is of how many numbers an entry is made.
const parts = 8

// entry is of those numbers, one for each part.
func entry(n [parts]int) api.Entry {
	return api.Entry{
		Place: api.Place{Kind: n[0], I: n[1], J: n[2]},
		Word:  api.Word{N: int64(n[3]), Cell: n[4], Gen: n[5]},
		Gen:   n[6],
		Pc:    n[7],
	}
}

// some are entries that differ in each part, and from the empty one.
func some(from int, count int) []api.Entry {
	var l []api.Entry
	for i := from; i < from+count; i++ {
		l = append(l, entry([parts]int{i + 1, i + 20, i + 40, i + 60, i + 80, i + 100, i + 120, i + 140}))
	}
	return l
}

// store is an entry that waits for that place in that life, with a word that has three parts of its own.
func store(x api.Place, gen int, n int) api.Entry {
	return api.Entry{Place: x, Gen: gen, Word: word(n), Pc: n + 3}
}

func word(n int) api.Word {
	return api.Word{N: int64(n), Cell: n + 1, Gen: n + 2}
}

// asked is what Last may be asked for.
type asked struct {
	place api.Place
	gen   int
}

// near are a place and a life, and all that differ from them in one part alone.
func near(x api.Place, gen int) []asked {
	l := []asked{{x, gen}}
	for _, by := range []int{1, -1, 1 << 32, 1 << 62} {
		l = append(l,
			asked{api.Place{Kind: x.Kind + by, I: x.I, J: x.J}, gen},
			asked{api.Place{Kind: x.Kind, I: x.I + by, J: x.J}, gen},
			asked{api.Place{Kind: x.Kind, I: x.I, J: x.J + by}, gen},
			asked{x, gen + by},
		)
	}
	return l
}

// apart are two places and two lives, each with each, that differ in one part and in several.
func apart() []asked {
	var l []asked
	for _, kind := range []int{api.PlRoot, api.PlField} {
		for i := 1; i <= 2; i++ {
			for j := range 2 {
				for gen := range 2 {
					l = append(l, asked{api.Place{Kind: kind, I: i, J: j}, gen})
				}
			}
		}
	}
	return l
}

// strangers are buffers that New did not make, each of them new.
func strangers() []*buffer.Buffer {
	return []*buffer.Buffer{nil, {}, new(buffer.Buffer), (*buffer.Buffer)(nil).Clone(), (&buffer.Buffer{}).Clone()}
}

// model is a buffer by the chapter's words: the stores that wait, and the room in all.
type model struct {
	wait []api.Entry
	room int
}

func (m *model) push(e api.Entry) bool {
	if len(m.wait) >= m.room {
		return false
	}
	m.wait = append(slices.Clone(m.wait), e)
	return true
}

func (m *model) pop() (api.Entry, bool) {
	if len(m.wait) == 0 {
		return api.Entry{}, false
	}
	e := m.wait[0]
	m.wait = slices.Clone(m.wait[1:])
	return e, true
}

func (m *model) last(x api.Place, gen int) (api.Word, bool) {
	w, found := api.Word{}, false
	for _, e := range m.wait {
		if e.Place.Kind == x.Kind && e.Place.I == x.I && e.Place.J == x.J && e.Gen == gen {
			w, found = e.Word, true
		}
	}
	return w, found
}

func (m *model) clone() *model {
	return &model{wait: slices.Clone(m.wait), room: m.room}
}

// chance is a row of numbers without a short beat.
type chance uint64

func (c *chance) next(below int) int {
	*c = *c*6364136223846793005 + 1442695040888963407
	return int(uint64(*c) >> 33 % uint64(below))
}

// with is a buffer of that room, and its model, into which the entries went.
func with(t *testing.T, room int, l ...api.Entry) (*buffer.Buffer, *model) {
	t.Helper()
	b, m := buffer.New(room), &model{room: min(max(room, 0), 4)}
	for _, e := range l {
		holdPush(t, b, m, e)
	}
	return b, m
}

// turned is a buffer of that room, and its model, through which so many entries went, so that its row begins elsewhere.
func turned(t *testing.T, room int, gone int) (*buffer.Buffer, *model) {
	t.Helper()
	b, m := with(t, room)
	for _, e := range some(300, gone) {
		holdPush(t, b, m, e)
		holdPop(t, b, m)
	}
	return b, m
}

// holdCounts looks at Len and Full alone, so that neither All nor Last stands between any two calls.
func holdCounts(t *testing.T, b *buffer.Buffer, m *model) {
	t.Helper()
	if got := b.Len(); got != len(m.wait) {
		t.Fatalf("Len() = %d, want %d of %d", got, len(m.wait), m.room)
	}
	if got := b.Full(); got != (len(m.wait) == m.room) {
		t.Fatalf("Full() = %v with %d of %d", got, len(m.wait), m.room)
	}
}

func holdPush(t *testing.T, b *buffer.Buffer, m *model, e api.Entry) {
	t.Helper()
	if got, want := b.Push(e), m.push(e); got != want {
		t.Fatalf("Push(%v) = %v, want %v, with %d of %d", e, got, want, len(m.wait), m.room)
	}
	holdCounts(t, b, m)
}

func holdPop(t *testing.T, b *buffer.Buffer, m *model) {
	t.Helper()
	e, ok := b.Pop()
	if want, wantOK := m.pop(); e != want || ok != wantOK {
		t.Fatalf("Pop() = %v, %v, want %v, %v", e, ok, want, wantOK)
	}
	holdCounts(t, b, m)
}

func holdLast(t *testing.T, b *buffer.Buffer, m *model, x api.Place, gen int) {
	t.Helper()
	w, ok := b.Last(x, gen)
	if want, wantOK := m.last(x, gen); w != want || ok != wantOK {
		t.Fatalf("Last(%v, %d) = %v, %v, want %v, %v, of %v", x, gen, w, ok, want, wantOK, m.wait)
	}
	holdCounts(t, b, m)
}

func holdAll(t *testing.T, b *buffer.Buffer, m *model) {
	t.Helper()
	if got := b.All(); !slices.Equal(got, m.wait) {
		t.Fatalf("All() = %v, want %v", got, m.wait)
	}
	holdCounts(t, b, m)
}

// holdState looks at everything that a buffer tells without being changed, twice, as telling changes nothing.
func holdState(t *testing.T, b *buffer.Buffer, m *model) {
	t.Helper()
	for range 2 {
		holdCounts(t, b, m)
		holdLast(t, b, m, api.Place{}, 0)
		holdLast(t, b, m, api.Place{Kind: api.PlEpoch, I: -7, J: 3}, 9)
		for _, e := range m.wait {
			holdLast(t, b, m, e.Place, e.Gen)
		}
		holdAll(t, b, m)
	}
}

// holdEmptied pops all, and one more.
func holdEmptied(t *testing.T, b *buffer.Buffer, m *model) {
	t.Helper()
	for range m.room + 1 {
		holdPop(t, b, m)
	}
	holdState(t, b, m)
}

// holdWord fails if the last store for that place and life isn't of that word.
func holdWord(t *testing.T, b *buffer.Buffer, x api.Place, gen int, want api.Word) {
	t.Helper()
	if w, ok := b.Last(x, gen); w != want || !ok {
		t.Fatalf("Last(%v, %d) = %v, %v, want %v", x, gen, w, ok, want)
	}
}

// holdNone fails if a store for that place and life waits.
func holdNone(t *testing.T, b *buffer.Buffer, x api.Place, gen int) {
	t.Helper()
	if w, ok := b.Last(x, gen); w != (api.Word{}) || ok {
		t.Fatalf("Last(%v, %d) = %v, %v, want none", x, gen, w, ok)
	}
}

// holdStranger looks at every call of a buffer that New did not make, in an order in which none helps the next one.
func holdStranger(t *testing.T, b *buffer.Buffer) {
	t.Helper()
	for _, e := range append(some(0, 3), api.Entry{}) {
		if b.Push(e) {
			t.Errorf("Push(%v) = true", e)
		}
		if got, ok := b.Pop(); got != (api.Entry{}) || ok {
			t.Errorf("Pop() = %v, %v", got, ok)
		}
		if w, ok := b.Last(e.Place, e.Gen); w != (api.Word{}) || ok {
			t.Errorf("Last(%v, %d) = %v, %v", e.Place, e.Gen, w, ok)
		}
		if l := b.All(); len(l) != 0 {
			t.Errorf("All() = %v", l)
		}
		if b.Len() != 0 || !b.Full() {
			t.Errorf("Len() = %d, Full() = %v", b.Len(), b.Full())
		}
		if c := b.Clone(); c != nil {
			t.Errorf("Clone() = %v", c)
		}
	}
}

// The chapter's example: push root 0 with 1, then with 2: Last tells 2, Pop 1.
func TestExample(t *testing.T) {
	root := api.Place{Kind: api.PlRoot}
	b := buffer.New(2)
	one, two := api.Entry{Place: root, Word: api.Word{N: 1}}, api.Entry{Place: root, Word: api.Word{N: 2}}
	if !b.Push(one) || !b.Push(two) {
		t.Fatal("there is room for two")
	}
	holdWord(t, b, root, 0, two.Word)
	if e, ok := b.Pop(); e != one || !ok {
		t.Fatalf("Pop() = %v, %v", e, ok)
	}
	holdWord(t, b, root, 0, two.Word)
	if e, ok := b.Pop(); e != two || !ok {
		t.Fatalf("Pop() = %v, %v", e, ok)
	}
	holdNone(t, b, root, 0)
}

// P20.1: New is empty, of the room that was asked for, or the nearest to it: a buffer of no room is full and empty at once, another one is just empty.
func TestNew(t *testing.T) {
	for _, r := range rooms {
		b := buffer.New(r.asked)
		if b == nil {
			t.Fatalf("New(%d) = nil", r.asked)
		}
		if b.Len() != 0 || b.Full() != (r.had == 0) || len(b.All()) != 0 {
			t.Errorf("New(%d): Len() = %d, Full() = %v, All() = %v", r.asked, b.Len(), b.Full(), b.All())
		}
		if e, ok := b.Pop(); e != (api.Entry{}) || ok {
			t.Errorf("New(%d): Pop() = %v, %v", r.asked, e, ok)
		}
		holdNone(t, b, api.Place{}, 0)
	}
}

// P20.1: every room is had in full, and no more than that; then all comes out.
func TestRoom(t *testing.T) {
	for _, r := range rooms {
		b := buffer.New(r.asked)
		m := &model{room: r.had}
		for _, e := range some(0, r.had+3) {
			holdPush(t, b, m, e)
			holdState(t, b, m)
		}
		if len(m.wait) != r.had {
			t.Fatalf("room %d: %d wait", r.asked, len(m.wait))
		}
		holdEmptied(t, b, m)
	}
}

// P20.1: a buffer of no room is empty and full at once, whatever is tried.
func TestNoRoom(t *testing.T) {
	for _, room := range []int{0, -1, -4, least} {
		b := buffer.New(room)
		for _, e := range append(some(0, 3), api.Entry{}) {
			if b.Push(e) {
				t.Errorf("room %d: Push(%v) = true", room, e)
			}
			if got, ok := b.Pop(); got != (api.Entry{}) || ok {
				t.Errorf("room %d: Pop() = %v, %v", room, got, ok)
			}
			if b.Len() != 0 || !b.Full() || len(b.All()) != 0 {
				t.Errorf("room %d: Len() = %d, Full() = %v, All() = %v", room, b.Len(), b.Full(), b.All())
			}
			holdNone(t, b, e.Place, e.Gen)
			if c := b.Clone(); c == nil || c.Len() != 0 || !c.Full() || c.Push(e) {
				t.Errorf("room %d: its clone has room, or is none", room)
			}
		}
	}
}

// P20.1: Push of a full buffer is false, and changes nothing, however often it is tried.
func TestPushFull(t *testing.T) {
	for room := range 5 {
		for gone := range room + 2 {
			b, m := turned(t, room, gone)
			for _, e := range some(0, room) {
				holdPush(t, b, m, e)
			}
			for _, e := range append(some(50, 4), api.Entry{}, some(0, 1)[0]) {
				if b.Push(e) || !b.Full() {
					t.Fatalf("room %d: Push(%v) of a full one", room, e)
				}
				holdLast(t, b, m, e.Place, e.Gen)
				holdState(t, b, m)
			}
			holdEmptied(t, b, m)
		}
	}
}

// P20.1: Pop of an empty buffer is the empty entry and false, changes nothing, and hinders nothing that is pushed later; the empty entry that waits is told apart from none.
func TestPopEmpty(t *testing.T) {
	for room := range 5 {
		b, m := with(t, room)
		for _, e := range append(some(0, 6), api.Entry{}) {
			for range 3 {
				holdPop(t, b, m)
				holdState(t, b, m)
			}
			holdPush(t, b, m, e)
			holdState(t, b, m)
			holdPop(t, b, m)
		}
	}
	b, m := with(t, 2, api.Entry{}, api.Entry{})
	holdState(t, b, m)
	if e, ok := b.Pop(); e != (api.Entry{}) || !ok || b.Len() != 1 {
		t.Fatalf("Pop() = %v, %v", e, ok)
	}
}

// P20.1: what went gives room again, to the full buffer and no more.
func TestRoomAgain(t *testing.T) {
	for room := 1; room <= 4; room++ {
		b, m := with(t, room, some(0, room)...)
		for _, e := range some(10, 30) {
			holdPush(t, b, m, e)
			holdPop(t, b, m)
			holdPush(t, b, m, e)
			holdPush(t, b, m, e)
			holdState(t, b, m)
		}
		holdEmptied(t, b, m)
	}
}

// P20.2: each part of an entry comes out as it came in, whatever the others are: by Pop, by All, by a clone, and the word by Last.
func TestParts(t *testing.T) {
	b := buffer.New(1)
	for _, e := range everyEntry() {
		if !b.Push(e) || b.Len() != 1 || !b.Full() {
			t.Fatalf("Push(%v)", e)
		}
		if w, ok := b.Last(e.Place, e.Gen); w != e.Word || !ok {
			t.Fatalf("Last(%v, %d) = %v, %v, want %v", e.Place, e.Gen, w, ok, e.Word)
		}
		if l := b.All(); len(l) != 1 || l[0] != e {
			t.Fatalf("All() = %v, want %v", l, e)
		}
		if got, ok := b.Pop(); got != e || !ok || b.Len() != 0 || b.Full() {
			t.Fatalf("Pop() = %v, %v, want %v", got, ok, e)
		}
	}
}

// everyEntry are all entries whose parts are of values.
func everyEntry() []api.Entry {
	var l []api.Entry
	count := 1
	for range parts {
		count *= len(values)
	}
	for n := range count {
		var e [parts]int
		for i := range e {
			e[i] = values[n%len(values)]
			n /= len(values)
		}
		l = append(l, entry(e))
	}
	return l
}

// P20.2: entries that wait beside others, of which each differs in one part, are not taken for one another.
func TestPartsBesideOthers(t *testing.T) {
	for part := range parts {
		for at := range values {
			var l []api.Entry
			for i := range 4 {
				n := [parts]int{11, 12, 13, 14, 15, 16, 17, 18}
				n[part] = values[(at+i)%len(values)]
				l = append(l, entry(n))
			}
			b, m := with(t, 4, l...)
			holdState(t, b, m)
			c, k := b.Clone(), m.clone()
			holdEmptied(t, b, m)
			holdState(t, c, k)
			holdEmptied(t, c, k)
		}
	}
}

// P20.1: Last of a place for which none, one, and several stores wait, wherever they stand: each of up to four stores is for that place, or for another one.
func TestLast(t *testing.T) {
	for _, x := range []api.Place{{Kind: api.PlRoot}, {Kind: api.PlField, I: 2, J: 1}, {}, {Kind: least, I: most, J: -1}} {
		for _, gen := range []int{0, 1, -1, least, most} {
			for count := range 5 {
				for pattern := range 1 << count {
					holdPattern(t, x, gen, count, pattern)
				}
			}
		}
	}
}

// holdPattern pushes so many stores, of which those are for the place whose bits are in the pattern, looks for the last of them by its number, and again behind each Pop.
func holdPattern(t *testing.T, x api.Place, gen int, count int, pattern int) {
	t.Helper()
	other := api.Place{Kind: x.Kind, I: x.I + 1, J: x.J}
	b, m := with(t, 4)
	for i := range count {
		if pattern>>i&1 == 1 {
			holdPush(t, b, m, store(x, gen, 10*i+5))
		} else {
			holdPush(t, b, m, store(other, gen, 10*i+5))
		}
	}
	for first := range count + 1 {
		last := -1
		for i := first; i < count; i++ {
			if pattern>>i&1 == 1 {
				last = i
			}
		}
		if last < 0 {
			holdNone(t, b, x, gen)
		} else {
			holdWord(t, b, x, gen, word(10*last+5))
		}
		holdState(t, b, m)
		holdPop(t, b, m)
	}
}

// P20.1: Last of a place that differs from one that waits in one part alone, and of the same place with another Gen, tells none; where both wait, each is told by itself.
func TestLastNear(t *testing.T) {
	for _, kind := range values {
		for _, i := range values {
			for _, j := range values {
				for _, gen := range values {
					holdNear(t, api.Place{Kind: kind, I: i, J: j}, gen)
				}
			}
		}
	}
}

func holdNear(t *testing.T, x api.Place, gen int) {
	t.Helper()
	b, _ := with(t, 3, store(x, gen, 7))
	for _, a := range near(x, gen)[1:] {
		holdNone(t, b, a.place, a.gen)
	}
	holdWord(t, b, x, gen, word(7))
	for _, a := range near(x, gen)[1:] {
		b, m := with(t, 4, store(x, gen, 1), store(a.place, a.gen, 2))
		holdWord(t, b, x, gen, word(1))
		holdWord(t, b, a.place, a.gen, word(2))
		holdPop(t, b, m)
		holdNone(t, b, x, gen)
		holdWord(t, b, a.place, a.gen, word(2))
	}
}

// P20.1: the lives of the word, and the entry's Pc, are not what Last goes by.
func TestLastByGenAlone(t *testing.T) {
	x := api.Place{Kind: api.PlField, I: 1, J: 1}
	b := buffer.New(4)
	b.Push(api.Entry{Place: x, Gen: 1, Word: api.Word{N: 10, Cell: 4, Gen: 2}, Pc: 3})
	b.Push(api.Entry{Place: x, Gen: 2, Word: api.Word{N: 20, Cell: 5, Gen: 3}, Pc: 1})
	b.Push(api.Entry{Place: api.Place{Kind: api.PlRoot}, Gen: 5, Word: api.Word{N: 30, Cell: 6, Gen: 7}, Pc: 8})
	holdWord(t, b, x, 1, api.Word{N: 10, Cell: 4, Gen: 2})
	holdWord(t, b, x, 2, api.Word{N: 20, Cell: 5, Gen: 3})
	for _, gen := range []int{0, 3, 4, 5, 6, 7, 8, 10, 20, 30} {
		holdNone(t, b, x, gen)
	}
	for gen := range 31 {
		if gen != 5 {
			holdNone(t, b, api.Place{Kind: api.PlRoot}, gen)
		}
	}
}

// P20.1: a store that waits with the plain word 0 is told apart from none.
func TestLastZero(t *testing.T) {
	x := api.Place{Kind: api.PlRoot, I: 3}
	b, m := with(t, 4, store(x, 0, 9), api.Entry{Place: x})
	holdWord(t, b, x, 0, api.Word{})
	holdPop(t, b, m)
	holdWord(t, b, x, 0, api.Word{})
	holdPop(t, b, m)
	holdNone(t, b, x, 0)
	c := buffer.New(1)
	c.Push(api.Entry{})
	holdWord(t, c, api.Place{}, 0, api.Word{})
}

// P20.1: Last behind Pops that took the place's only store, or all but its last.
func TestLastBehindPops(t *testing.T) {
	x, y := api.Place{Kind: api.PlRoot}, api.Place{Kind: api.PlRoot, I: 1}
	b, m := with(t, 4, store(x, 0, 1), store(y, 0, 2), store(y, 0, 3), store(y, 0, 4))
	holdWord(t, b, x, 0, word(1))
	holdPop(t, b, m)
	holdNone(t, b, x, 0)
	for range 3 {
		holdWord(t, b, y, 0, word(4))
		holdPop(t, b, m)
	}
	holdNone(t, b, y, 0)
	for n := range 20 {
		holdPush(t, b, m, store(x, 0, n))
		holdPush(t, b, m, store(x, 1, n+50))
		holdWord(t, b, x, 0, word(n))
		holdWord(t, b, x, 1, word(n+50))
		holdPop(t, b, m)
		holdNone(t, b, x, 0)
		holdWord(t, b, x, 1, word(n+50))
		holdPop(t, b, m)
		holdNone(t, b, x, 1)
	}
}

// P20.1: Last, All, Len and Full change nothing: behind each of them, by itself and often, the same goes out, and the same room is there.
func TestAskingChangesNothing(t *testing.T) {
	asks := []func(b *buffer.Buffer){
		func(b *buffer.Buffer) { b.Len() },
		func(b *buffer.Buffer) { b.Full() },
		func(b *buffer.Buffer) { b.All() },
		func(b *buffer.Buffer) { b.Clone() },
		func(b *buffer.Buffer) { b.Last(api.Place{}, 0) },
		func(b *buffer.Buffer) { b.Last(some(0, 1)[0].Place, some(0, 1)[0].Gen) },
		func(b *buffer.Buffer) { b.Last(some(1, 1)[0].Place, some(1, 1)[0].Gen) },
		func(b *buffer.Buffer) { b.Last(some(3, 1)[0].Place, some(3, 1)[0].Gen) },
	}
	for _, ask := range asks {
		for room := range 5 {
			for count := range room + 1 {
				for often := range 6 {
					b, m := turned(t, room, often)
					for _, e := range some(0, count) {
						holdPush(t, b, m, e)
					}
					for range often {
						ask(b)
					}
					holdCounts(t, b, m)
					if count < room {
						holdPush(t, b, m, some(70, 1)[0])
					}
					ask(b)
					holdEmptied(t, b, m)
				}
			}
		}
	}
}

// P20.1: All is the first first, of an empty one, each part-filled one and a full one, wherever the row begins.
func TestAll(t *testing.T) {
	for room := range 5 {
		for gone := range 2*room + 1 {
			b, m := turned(t, room, gone)
			for _, e := range some(0, room+1) {
				holdAll(t, b, m)
				holdPush(t, b, m, e)
			}
			for range room + 1 {
				holdAll(t, b, m)
				holdPop(t, b, m)
			}
			holdState(t, b, m)
		}
	}
	e := some(0, 4)
	b, _ := with(t, 4, e...)
	if l := b.All(); !slices.Equal(l, []api.Entry{e[0], e[1], e[2], e[3]}) {
		t.Fatalf("All() = %v", l)
	}
}

// P20.1 and P2: what becomes of a list that was answered, to its room's end, changes neither the buffer, nor another list, nor a later one; nor does what becomes of the buffer change the list.
func TestAllMemory(t *testing.T) {
	for count := range 5 {
		b, m := with(t, 4, some(0, count)...)
		first, second := b.All(), b.All()
		for i := range second {
			second[i] = some(200, 1)[0]
		}
		_ = append(second[:0], make([]api.Entry, cap(second))...)
		_ = append(second, some(210, 3)...)
		if !slices.Equal(first, m.wait) {
			t.Errorf("All() = %v, want %v", first, m.wait)
		}
		holdState(t, b, m)
		kept, third := slices.Clone(m.wait), b.All()
		holdPush(t, b, m, some(40, 1)[0])
		holdPop(t, b, m)
		holdPop(t, b, m)
		holdPush(t, b, m, some(41, 1)[0])
		if !slices.Equal(third, kept) {
			t.Errorf("a list of ahead is %v, and was %v", third, kept)
		}
		holdEmptied(t, b, m)
	}
}

// P20.1: a clone is of the same room and stores, and stands as the buffer stood, wherever the row begins.
func TestClone(t *testing.T) {
	for _, r := range rooms {
		for count := range r.had + 1 {
			for gone := range 3 {
				b, m := with(t, r.asked)
				for _, e := range some(100, gone) {
					holdPush(t, b, m, e)
					holdPop(t, b, m)
				}
				for _, e := range some(0, count) {
					holdPush(t, b, m, e)
				}
				c, k := b.Clone(), m.clone()
				if c == nil || c == b {
					t.Fatalf("room %d, %d stores: Clone() = %p of %p", r.asked, count, c, b)
				}
				holdState(t, b, m)
				holdState(t, c, k)
				for _, e := range some(30, 5) {
					holdPush(t, c, k, e)
				}
				holdEmptied(t, c, k)
				holdState(t, b, m)
			}
		}
	}
}

// P20.1: a clone goes on apart from its origin, in both directions, as does a clone of a clone, be they empty, part-filled or full.
func TestCloneApart(t *testing.T) {
	for room := range 5 {
		for count := range room + 1 {
			b, m := with(t, room, some(0, count)...)
			c, k := b.Clone(), m.clone()
			d, n := c.Clone(), k.clone()
			holdPush(t, b, m, some(20, 1)[0])
			holdState(t, c, k)
			holdState(t, d, n)
			holdPop(t, c, k)
			holdPop(t, c, k)
			holdState(t, b, m)
			holdState(t, d, n)
			holdPop(t, d, n)
			for _, e := range some(40, 5) {
				holdPush(t, d, n, e)
			}
			holdState(t, b, m)
			holdState(t, c, k)
			holdEmptied(t, b, m)
			holdState(t, c, k)
			holdState(t, d, n)
			for _, e := range some(60, 5) {
				holdPush(t, c, k, e)
			}
			holdState(t, b, m)
			holdState(t, d, n)
			holdEmptied(t, d, n)
			holdState(t, b, m)
			holdEmptied(t, c, k)
		}
	}
}

// P20.1: a clone of a clone, and so on, is as the first one.
func TestCloneOften(t *testing.T) {
	for room := range 5 {
		for count := range room + 1 {
			b, m := with(t, room, some(0, count)...)
			for range 20 {
				b = b.Clone()
				holdState(t, b, m)
			}
			holdPush(t, b, m, some(9, 1)[0])
			holdEmptied(t, b, m)
		}
	}
}

// P20.1: of nil, and of a buffer that New did not make, every call tells nothing, whichever comes first; it is full.
func TestStrangers(t *testing.T) {
	e := some(0, 1)[0]
	calls := []func(*buffer.Buffer) bool{
		func(b *buffer.Buffer) bool { return !b.Push(e) },
		func(b *buffer.Buffer) bool { got, ok := b.Pop(); return got == api.Entry{} && !ok },
		func(b *buffer.Buffer) bool { w, ok := b.Last(e.Place, e.Gen); return w == api.Word{} && !ok },
		func(b *buffer.Buffer) bool { w, ok := b.Last(api.Place{}, 0); return w == api.Word{} && !ok },
		func(b *buffer.Buffer) bool { return len(b.All()) == 0 },
		func(b *buffer.Buffer) bool { return b.Len() == 0 },
		func(b *buffer.Buffer) bool { return b.Full() },
		func(b *buffer.Buffer) bool { return b.Clone() == nil },
	}
	for i, call := range calls {
		for j, b := range strangers() {
			if !call(b) {
				t.Errorf("call %d of stranger %d", i, j)
			}
			holdStranger(t, b)
		}
	}
}

// P20.2: stores go out as they came in, while Pushes and Pops come in any order, so that the row goes round far more often than it has room.
func TestThrough(t *testing.T) {
	for _, room := range []int{0, 1, 2, 3, 4, 5, -1, least, most} {
		b, m := with(t, room)
		c := chance(room)
		var came, went []api.Entry
		for i := range 4000 {
			lean := i / 500 % 2 // for a while more come in than go out, then it is the other way round
			before := slices.Clone(m.wait)
			if c.next(5) < 2+lean {
				e := some(i, 1)[0]
				holdPush(t, b, m, e)
				if len(m.wait) > len(before) {
					came = append(came, e)
				}
				continue
			}
			holdPop(t, b, m)
			if len(before) > 0 {
				went = append(went, before[0])
			}
		}
		if m.room > 0 && len(went) <= 100*m.room {
			t.Fatalf("room %d: the row hardly went round: %d went", room, len(went))
		}
		if !slices.Equal(came, append(went, m.wait...)) {
			t.Fatalf("room %d: what came in did not go out", room)
		}
		holdState(t, b, m)
		holdEmptied(t, b, m)
	}
}

// P20.2: by what the buffer tells alone: the stores whose Push was true are those that Pop gives, and All what is left.
func TestInOut(t *testing.T) {
	for seed := range 60 {
		c := chance(seed)
		b := buffer.New(c.next(7) - 1)
		var came, went []api.Entry
		for range 300 {
			var n [parts]int
			for i := range n {
				n[i] = values[c.next(len(values))]
			}
			if e := entry(n); c.next(2) == 0 && b.Push(e) {
				came = append(came, e)
			}
			if c.next(2) == 0 {
				if e, ok := b.Pop(); ok {
					went = append(went, e)
				}
			}
			if !slices.Equal(append(slices.Clone(went), b.All()...), came) {
				t.Fatalf("seed %d: %v went, %v wait, %v came", seed, went, b.All(), came)
			}
		}
	}
}

// P20.2: the last store of each place and life is seen, whatever came and went.
func TestLastThrough(t *testing.T) {
	all := apart()
	for room := range 5 {
		for _, choice := range []int{1, 2, 3, 5, len(all)} { // of few places many stores wait for the same one
			b, m := with(t, room)
			c := chance(room*100 + choice)
			for i := range 600 {
				a := all[c.next(choice)*7%len(all)]
				if c.next(5) < 3 {
					holdPush(t, b, m, store(a.place, a.gen, i))
				} else {
					holdPop(t, b, m)
				}
				for _, a := range all {
					holdLast(t, b, m, a.place, a.gen)
				}
			}
			holdEmptied(t, b, m)
		}
	}
}

// P20.2 and P20.1: buffers and their clones, many of them, called in any order: each does as if it were alone.
func TestMany(t *testing.T) {
	c := chance(20)
	all := apart()
	var bs []*buffer.Buffer
	var ms []*model
	for i := range 15 {
		b, m := with(t, i%5)
		bs, ms = append(bs, b), append(ms, m)
	}
	for i := range 20000 {
		at := c.next(len(bs))
		a := all[c.next(len(all))]
		switch c.next(9) {
		case 0, 1, 2:
			holdPush(t, bs[at], ms[at], store(a.place, a.gen, i))
		case 3, 4:
			holdPop(t, bs[at], ms[at])
		case 5:
			holdLast(t, bs[at], ms[at], a.place, a.gen)
		case 6, 7:
			holdState(t, bs[at], ms[at])
		case 8:
			other := (at + 5) % len(bs) // of the same room, so that none is lost
			bs[other], ms[other] = bs[at].Clone(), ms[at].clone()
		}
	}
	for i := range bs {
		holdState(t, bs[i], ms[i])
	}
}

// P3: what a buffer answers hangs on what it was told, not on another one that is told something else.
func TestNothingKept(t *testing.T) {
	for range 3 {
		b, m := with(t, 2, some(0, 2)...)
		q, k := with(t, 2)
		holdState(t, b, m)
		holdState(t, q, k)
		holdPush(t, q, k, some(8, 1)[0])
		holdPop(t, b, m)
		holdState(t, b, m)
		holdState(t, q, k)
	}
}

// P3: buffers that many goroutines have, each its own, do as if they were alone.
func TestBesideOthers(t *testing.T) {
	done := make(chan bool)
	for i := range 8 {
		go func() { done <- goesAlone(i) }()
	}
	for range 8 {
		if !<-done {
			t.Error("a buffer did otherwise beside others")
		}
	}
}

// goesAlone tells whether a buffer of its own does as its model, called in any order.
func goesAlone(seed int) bool {
	c := chance(seed)
	b, m := buffer.New(4), &model{room: 4}
	for i := range 500 {
		e := some(i%9, 1)[0]
		if c.next(2) == 0 {
			if b.Push(e) != m.push(e) {
				return false
			}
		} else {
			got, ok := b.Pop()
			want, wantOK := m.pop()
			if got != want || ok != wantOK {
				return false
			}
		}
		w, ok := b.Last(e.Place, e.Gen)
		want, wantOK := m.last(e.Place, e.Gen)
		if w != want || ok != wantOK || !slices.Equal(b.All(), m.wait) {
			return false
		}
	}
	return true
}
