package memory_test

import (
	"fmt"
	"math"
	"slices"
	"testing"

	"warrener/api"
	"warrener/memory"
)

const (
	least = math.MinInt
	most  = math.MaxInt

	// The kinds, as package api has them.
	root  = 1
	head  = 2
	field = 3
	heap  = 4
	slot  = 5
	epoch = 6
	mark  = 7
	count = 8
)

// kinds are those of which a memory has places, and cells are those of which it has none.
var (
	kinds = []int{root, slot, epoch, mark, count}
	cells = []int{head, field, heap}
)

// others are no kinds of places; some are one of the eight when they are cut to fewer bits.
var others = []int{0, -1, 9, 10, -5, -8, 16, 255, 256, 257, 261, 262, 263, 264, 1<<16 + 1, 1 << 31, 1<<32 + 1, 1<<32 + 5, 1<<32 + 6, 1<<32 + 8, -1<<32 + 7, most - 1, most, least, least + 1, least + 6}

// indices are what I and J may be: those about each bound, those that are a place's when they are cut to fewer bits, and both ends.
var indices = []int{0, 1, 2, 3, 4, 5, 6, 7, -1, -2, -4, 255, 256, 257, 1<<16 + 1, 1 << 31, 1<<32 - 1, 1 << 32, 1<<32 + 1, 1<<32 + 3, -1 << 32, -1<<32 + 1, most - 1, most, least, least + 1, least + 2}

// amounts are how many roots, cells and slots a program may tell; some are few when they are cut to fewer bits.
var amounts = []int{0, 1, 2, 3, 4, 5, 6, 7, 8, -1, -2, -4, 255, 256, 257, 1 << 31, 1 << 32, 1<<32 + 1, 1<<32 + 2, -1 << 32, -1<<32 + 3, most - 1, most, least, least + 1, least + 3}

// words are of all kinds: plain ones, pointers of any life, and those that no call makes, each once.
var words = []api.Word{
	{N: 1}, {}, {N: -1}, {N: 7}, {N: 256}, {N: 1 << 32}, {N: 1<<32 + 1}, {N: -1 << 32}, {N: math.MinInt64}, {N: math.MaxInt64}, {N: math.MaxInt64 - 1}, {N: 1 << 53}, {N: 1<<53 + 1},
	{N: 1, Cell: 1, Gen: 1}, {N: 1, Cell: 1, Gen: 2}, {N: 2, Cell: 2, Gen: 1}, {N: 6, Cell: 6, Gen: 3}, {N: 1, Cell: 1}, {N: 3, Cell: 3, Gen: most}, {N: 3, Cell: 3, Gen: least},
	{N: 0, Cell: 2, Gen: 1}, {N: 9, Cell: 1, Gen: 2}, {N: 3, Cell: -1, Gen: 4}, {Gen: 5}, {N: 1, Gen: 1}, {Cell: most, Gen: least}, {N: math.MinInt64, Cell: least, Gen: most},
}

// program is of so many roots, cells and slots, and of so many threads, each of other instructions.
func program(roots int, cells int, slots int, threads int) api.Prog {
	p := api.Prog{Roots: roots, Cells: cells, Slots: slots}
	for i := range threads {
		p.Code = append(p.Code, make([]api.Instr, i%3))
	}
	return p
}

// full is of as many of all as there may be.
func full() api.Prog {
	return program(4, 6, 2, 4)
}

// some are programs of ordinary amounts, of the least and the greatest, and of too few and too many.
func some() []api.Prog {
	return []api.Prog{
		{}, full(), program(1, 1, 1, 1), program(2, 3, 1, 2), program(3, 2, 2, 3), program(1, 0, 2, 4), program(0, 1, 0, 2), program(2, 1, 2, 0),
		program(5, 7, 3, 5), program(-1, -1, -1, 1), program(most, most, most, 70), program(least, least, least, 4), program(1<<32+1, 1<<32+1, 1<<32+1, 257),
	}
}

// told is what is to be known of a program.
func told(p api.Prog) string {
	return fmt.Sprintf("roots %d cells %d slots %d threads %d", p.Roots, p.Cells, p.Slots, len(p.Code))
}

// hasWants is what the page says of a place, kind by kind.
func hasWants(x api.Place, p api.Prog) bool {
	thread := 0 <= x.I && x.I < len(p.Code) && x.I <= 3
	switch x.Kind {
	case 1:
		return 0 <= x.I && x.I < p.Roots && x.I <= 3 && x.J == 0
	case 5:
		return thread && (x.J == 0 && p.Slots >= 1 || x.J == 1 && p.Slots >= 2)
	case 6:
		return x.I == 0 && x.J == 0
	case 7, 8:
		return thread && x.J == 0
	}
	return false
}

// placesWant are the places that the page says a memory of that program has, kind by kind, of each by I, of each of these by J.
func placesWant(p api.Prog) []api.Place {
	var l []api.Place
	for kind := 1; kind <= 8; kind++ {
		for i := range 8 {
			for j := range 3 {
				if x := (api.Place{Kind: kind, I: i, J: j}); hasWants(x, p) {
					l = append(l, x)
				}
			}
		}
	}
	return l
}

// about are all places about those that any memory has.
func about() []api.Place {
	var l []api.Place
	for kind := -1; kind <= 10; kind++ {
		for i := -1; i <= 7; i++ {
			for j := -1; j <= 2; j++ {
				l = append(l, api.Place{Kind: kind, I: i, J: j})
			}
		}
	}
	return l
}

// put is one Put that was true.
type put struct {
	x api.Place
	w api.Word
}

// model is a memory by the page's words: a list of Puts, of which the last one at a place counts.
type model struct {
	p    api.Prog
	puts []put
}

func (m *model) get(x api.Place) (api.Word, bool) {
	var w api.Word
	for _, one := range m.puts {
		if one.x == x {
			w = one.w
		}
	}
	return w, hasWants(x, m.p)
}

func (m *model) put(x api.Place, w api.Word) bool {
	if !hasWants(x, m.p) {
		return false
	}
	if x.Kind >= 6 {
		w.Cell, w.Gen = 0, 0
	}
	m.puts = append(m.puts, put{x, w})
	return true
}

func (m *model) undo(mark int) bool {
	if mark < 0 || mark > len(m.puts) {
		return false
	}
	m.puts = slices.Clone(m.puts[:mark])
	return true
}

// all are the words of all places of a kind.
func (m *model) all(kind int) []api.Word {
	var l []api.Word
	for _, x := range placesWant(m.p) {
		if x.Kind == kind {
			w, _ := m.get(x)
			l = append(l, w)
		}
	}
	return l
}

// numbers are those of the words of all places of a kind.
func (m *model) numbers(kind int) []int64 {
	var l []int64
	for _, w := range m.all(kind) {
		l = append(l, w.N)
	}
	return l
}

// chance is a row of numbers without a short beat.
type chance uint64

func (c *chance) next(below int) int {
	*c = *c*6364136223846793005 + 1442695040888963407
	return int(uint64(*c) >> 33 % uint64(below))
}

// pair is a memory and its model, to which the same is done. trail is what was done, for those who look for a fault.
type pair struct {
	t     *testing.T
	m     *memory.Memory
	want  *model
	trail []string
}

func newPair(t *testing.T, p api.Prog) *pair {
	t.Helper()
	b := &pair{t: t, m: memory.New(p), want: &model{p: p}}
	if b.m == nil {
		t.Fatalf("New(%s) = nil", told(p))
	}
	b.say("New(%s)", told(p))
	b.hold()
	return b
}

func (b *pair) say(form string, of ...any) {
	b.trail = append(b.trail, fmt.Sprintf(form, of...))
}

func (b *pair) fail(form string, of ...any) {
	b.t.Helper()
	b.t.Fatalf("%s; behind %v", fmt.Sprintf(form, of...), b.trail[max(0, len(b.trail)-40):])
}

// hold looks at all that the memory tells of itself, twice, as telling changes nothing.
func (b *pair) hold() {
	b.t.Helper()
	for range 2 {
		for _, x := range placesWant(b.want.p) {
			b.holdGet(x)
		}
		if l := b.m.Roots(); !slices.Equal(l, b.want.all(root)) {
			b.fail("Roots() = %v, want %v", l, b.want.all(root))
		}
		if l := b.m.Slots(); !slices.Equal(l, b.want.all(slot)) {
			b.fail("Slots() = %v, want %v", l, b.want.all(slot))
		}
		if n := b.m.Epoch(); n != b.want.numbers(epoch)[0] {
			b.fail("Epoch() = %d, want %d", n, b.want.numbers(epoch)[0])
		}
		if l := b.m.Marks(); !slices.Equal(l, b.want.numbers(mark)) {
			b.fail("Marks() = %v, want %v", l, b.want.numbers(mark))
		}
		if l := b.m.Counts(); !slices.Equal(l, b.want.numbers(count)) {
			b.fail("Counts() = %v, want %v", l, b.want.numbers(count))
		}
		if n := b.m.Mark(); n != len(b.want.puts) {
			b.fail("Mark() = %d, want %d", n, len(b.want.puts))
		}
	}
}

func (b *pair) holdGet(x api.Place) {
	b.t.Helper()
	got, ok := b.m.Get(x)
	if want, wantOK := b.want.get(x); got != want || ok != wantOK {
		b.fail("Get(%v) = %v, %v, want %v, %v", x, got, ok, want, wantOK)
	}
}

func (b *pair) put(x api.Place, w api.Word) bool {
	b.t.Helper()
	b.say("Put(%v, %v)", x, w)
	got := b.m.Put(x, w)
	if want := b.want.put(x, w); got != want {
		b.fail("= %v, want %v", got, want)
	}
	b.holdGet(x)
	b.hold()
	return got
}

func (b *pair) undo(to int) bool {
	b.t.Helper()
	b.say("Undo(%d)", to)
	got := b.m.Undo(to)
	if want := b.want.undo(to); got != want {
		b.fail("= %v, want %v", got, want)
	}
	b.hold()
	return got
}

func (b *pair) clone() *pair {
	b.t.Helper()
	c := &pair{t: b.t, m: b.m.Clone(), want: &model{p: b.want.p, puts: slices.Clone(b.want.puts)}, trail: slices.Clone(b.trail)}
	if c.m == nil || c.m == b.m {
		b.fail("Clone() = %p of %p", c.m, b.m)
	}
	c.say("Clone()")
	c.hold()
	b.hold()
	return c
}

// fill puts at each place a word of its own, unlike all others.
func (b *pair) fill(from int) {
	b.t.Helper()
	for i, x := range placesWant(b.want.p) {
		if !b.put(x, api.Word{N: int64(from + i), Cell: from + i + 1, Gen: -from - i - 1}) {
			b.fail("Put(%v) = false", x)
		}
	}
}

// mixed is of all places, each put at least once and some several times, in no order.
func mixed(t *testing.T, p api.Prog) *pair {
	t.Helper()
	b := newPair(t, p)
	l := placesWant(p)
	for i := range 2*len(l) + 5 {
		b.put(l[i*i*7%len(l)], words[i%len(words)])
		b.put(l[i%len(l)], api.Word{N: int64(i) + 100, Cell: i, Gen: 1})
	}
	return b
}

// strangers are memories that New did not make, each of them new.
func strangers() []*memory.Memory {
	return []*memory.Memory{nil, {}, new(memory.Memory), (*memory.Memory)(nil).Clone(), (&memory.Memory{}).Clone()}
}
