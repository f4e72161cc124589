package act_test

import (
	"cmp"
	"math"
	"slices"
	"testing"

	"warrener/act"
	"warrener/api"
)

// What the page says, word by word, in another way than the program goes: instructions as rows of words, feet as sets of places.

const (
	least = math.MinInt64
	most  = math.MaxInt64
)

// numbers are ordinary ones, those about the bounds, and those whose double just goes round.
var numbers = []int64{
	least, least + 1, least + 2, least / 2, least/2 - 1, least/2 + 1, -1 << 32, -256, -3, -2, -1,
	0, 1, 2, 3, 4, 5, 6, 7, 8, 255, 256, 1 << 31, 1<<32 - 1, 1 << 32, 1<<32 + 1, most / 2, most/2 + 1, most - 1, most,
}

// ints are those numbers as ints.
func ints() []int {
	var l []int
	for _, n := range numbers {
		l = append(l, int(n))
	}
	return l
}

// actKinds are the kinds of acts, and numbers that are none: beside them, those that are one when they are cut to fewer bits or but for their sign, and both ends.
func actKinds() []int {
	l := []int{0, 1, 2, 3, 4, 5, 6, 7, 8, 9, 10, 11, -1, 12, 13, 100, least, least + 1, most - 1, most}
	for kind := 1; kind <= 11; kind++ {
		l = append(l, -kind, ^kind, kind+16, kind+256, kind+1<<16, kind+1<<32, kind-1<<32, least+kind)
	}
	return l
}

// microKinds are the kinds of micros but MiNone, and numbers that are none.
func microKinds() []int {
	l := []int{1, 2, 3, 4, 5, 6, 7, 8, -1, 9, 10, 100, least, least + 1, most - 1, most}
	for kind := 1; kind <= 8; kind++ {
		l = append(l, -kind, ^kind, kind+16, kind+256, kind+1<<16, kind+1<<32, kind-1<<32, least+kind)
	}
	return l
}

// words are of all kinds: pointers of this life and of earlier ones, plain ones, and those that no call makes.
func words() []api.Word {
	l := []api.Word{
		{N: 1, Cell: 1, Gen: 1}, {N: 1, Cell: 1, Gen: 2}, {N: 2, Cell: 2, Gen: 1}, {N: 2, Cell: 2, Gen: 7}, {N: 6, Cell: 6, Gen: 3}, {N: 7, Cell: 7, Gen: 1}, {N: most, Cell: most, Gen: most},
		{N: 1, Cell: 1}, {N: 5, Cell: 2, Gen: 1}, {N: 0, Cell: 3, Gen: 2}, {N: -1, Cell: 3, Gen: -1}, {N: least, Cell: most, Gen: least}, {N: 4, Cell: 256, Gen: 1}, {N: 4, Cell: 1 << 32, Gen: 1},
		{N: 0, Cell: 0, Gen: 1}, {N: 2, Cell: 0, Gen: 5}, {N: 1, Cell: -1, Gen: 1}, {N: 5, Cell: least, Gen: most}, {N: 5, Cell: -1 << 32, Gen: 2},
	}
	for _, n := range numbers {
		l = append(l, api.Word{N: n})
	}
	return l
}

// four are registers of unlike words, the first of them this one.
func four(first api.Word) [4]api.Word {
	return [4]api.Word{first, {N: 3, Cell: 3, Gen: 4}, {N: -9}, {N: 5, Cell: 5, Gen: 1}}
}

// program may be: it has all there can be, and so many threads, each of this code.
func program(threads int, code ...api.Instr) api.Prog {
	p := api.Prog{Roots: api.MaxRoots, Cells: api.MaxCells, Slots: api.MaxSlots}
	for range threads {
		p.Code = append(p.Code, slices.Clone(code))
	}
	return p
}

// running is a thread that goes on, at its first instruction.
func running(regs [4]api.Word) api.Thread {
	return api.Thread{Fuel: 5, Regs: regs, Bag: []api.Bagged{{Cell: 4, Gen: 1, N: 6}}, Snap: []int64{3, 2}, Old: 1}
}

// between is a thread with that micro; it has neither fuel nor an instruction, which a micro doesn't ask for.
func between(m api.Micro) api.Thread {
	th := running(four(api.Word{N: 1, Cell: 1, Gen: 1}))
	th.Micro, th.Fuel, th.Pc = m, 0, 99
	return th
}

// row is what the page says of an instruction: its act's kind, its place by name, and of which register At, Want and Word are; - is nothing.
type row struct {
	kind           int
	place          string
	at, want, word byte
}

// rows are by the instructions' numbers.
var rows = map[int]row{
	11: {2, "root B", '-', '-', '-'},
	12: {3, "root A", '-', '-', 'b'},
	13: {4, "root N", '-', 'b', 'c'},
	14: {2, "field", 'b', '-', '-'},
	15: {3, "field", 'a', '-', 'b'},
	16: {4, "field", 'a', 'b', 'c'},
	17: {5, "", '-', '-', '-'},
	18: {6, "", '-', '-', '-'},
	19: {7, "", 'a', '-', '-'},
	20: {8, "", 'a', '-', '-'},
	21: {3, "slot", '-', '-', 'a'},
	22: {3, "slot", '-', '-', '-'},
	23: {2, "epoch", '-', '-', '-'},
	24: {3, "mark", '-', '-', '-'},
	25: {3, "count", '-', '-', '+'},
}

// instrWants is P27.1, of an instruction that may be.
func instrWants(t int, th api.Thread, x api.Instr, own int64) api.Act {
	r, shared := rows[x.Op]
	if !shared {
		return api.Act{Kind: 1}
	}
	word := map[byte]api.Word{'a': th.Regs[x.A%4], 'b': th.Regs[x.B%4], 'c': th.Regs[x.C%4], '+': {N: int64(uint64(own) + 1)}}
	a := api.Act{Kind: r.kind, At: word[r.at], Want: word[r.want], Word: word[r.word]}
	switch r.place {
	case "root A":
		a.Place = api.Place{Kind: 1, I: x.A}
	case "root B":
		a.Place = api.Place{Kind: 1, I: x.B}
	case "root N":
		a.Place = api.Place{Kind: 1, I: int(x.N)}
	case "field":
		if a.Gen = a.At.Gen; a.At.Cell > 0 {
			a.Place = api.Place{Kind: 3, I: a.At.Cell, J: int(x.N)}
		}
	case "slot":
		a.Place = api.Place{Kind: 5, I: t, J: int(x.N)}
	case "epoch":
		a.Place = api.Place{Kind: 6}
	case "mark":
		a.Place = api.Place{Kind: 7, I: t}
	case "count":
		a.Place = api.Place{Kind: 8, I: t}
	}
	return a
}

// seenWants is chapter 24's: the place that a micro sees, of a program that may be; the empty one where there is none.
func seenWants(p api.Prog, m api.Micro) api.Place {
	slots := []api.Place{}
	for t := range p.Code {
		for slot := range p.Slots {
			slots = append(slots, api.Place{Kind: 5, I: t, J: slot})
		}
	}
	for i := range 8 {
		switch {
		case i != m.I:
		case m.Kind == 2 && i < len(slots):
			return slots[i]
		case m.Kind == 5 && i < len(p.Code):
			return api.Place{Kind: 7, I: i}
		case (m.Kind == 7 || m.Kind == 8) && i < len(p.Code):
			return api.Place{Kind: 8, I: i}
		}
	}
	if m.Kind == 4 {
		return api.Place{Kind: 6}
	}
	return api.Place{}
}

// microWants is P27.1, of a thread that goes on.
func microWants(p api.Prog, t int, m api.Micro) api.Act {
	if m.Kind == 1 {
		return api.Act{Kind: 3, Place: api.Place{Kind: 7, I: t}, Word: api.Word{N: int64(uint64(m.N)<<1 | 1)}}
	}
	if m.Kind == 6 {
		return api.Act{Kind: 4, Place: api.Place{Kind: 6}, Want: api.Word{N: m.N}, Word: api.Word{N: int64(uint64(m.N) + 1)}}
	}
	if m.Kind == 3 {
		return api.Act{Kind: 10}
	}
	if x := seenWants(p, m); x.Kind != 0 {
		return api.Act{Kind: 9, Place: x}
	}
	return api.Act{}
}

// ofWants is P27.1, of a program that may be.
func ofWants(p api.Prog, t int, th api.Thread, own int64) api.Act {
	if t < 0 || t >= len(p.Code) || th.Status != 0 {
		return api.Act{}
	}
	if th.Micro.Kind != 0 {
		return microWants(p, t, th.Micro)
	}
	for pc, x := range p.Code[t] {
		if pc == th.Pc && th.Fuel > 0 {
			return instrWants(t, th, x, own)
		}
	}
	return api.Act{}
}

// holdOf fails if Of answers otherwise than the page says.
func holdOf(t *testing.T, p api.Prog, i int, th api.Thread, own int64) {
	t.Helper()
	holdOfIs(t, p, i, th, own, ofWants(p, i, th, own))
}

// holdOfIs is for an answer that is written out.
func holdOfIs(t *testing.T, p api.Prog, i int, th api.Thread, own int64, want api.Act) {
	t.Helper()
	if got := act.Of(p, i, th, own); got != want {
		t.Fatalf("Of(%+v, %d, %+v, %d) = %+v, want %+v", p, i, th, own, got, want)
	}
}

// places are a set of them.
type places map[api.Place]int

// add puts places into the set.
func (s places) add(l ...api.Place) {
	for _, x := range l {
		s[x]++
	}
}

// whole puts a cell's head and fields into the set.
func (s places) whole(cell int) {
	s.add(api.Place{Kind: 2, I: cell}, api.Place{Kind: 3, I: cell}, api.Place{Kind: 3, I: cell, J: 1})
}

// list is the set, rising.
func (s places) list() []api.Place {
	var l []api.Place
	for x := range s {
		l = append(l, x)
	}
	slices.SortFunc(l, func(x, y api.Place) int {
		return cmp.Or(cmp.Compare(x.Kind, y.Kind), cmp.Compare(x.I, y.I), cmp.Compare(x.J, y.J))
	})
	return l
}

// readsWants is P27.3.
func readsWants(a api.Act) []api.Place {
	s := places{}
	if (a.Kind == 2 || a.Kind == 4) && a.Place.Kind != 0 {
		s.add(a.Place)
	}
	if (a.Kind == 2 || a.Kind == 3 || a.Kind == 4) && a.At.Cell > 0 {
		s.add(api.Place{Kind: 2, I: a.At.Cell})
	}
	if a.Kind == 11 && a.Place.Kind == 3 {
		s.add(api.Place{Kind: 2, I: a.Place.I})
	}
	if a.Kind == 9 {
		s.add(a.Place)
	}
	return s.list()
}

// writesWants is P27.3.
func writesWants(order int, a api.Act, gone []api.Bagged) []api.Place {
	s, pointer := places{}, a.At.Cell > 0
	if (a.Kind == 4 || a.Kind == 3 && order == 0) && a.Place.Kind != 0 {
		s.add(a.Place)
	}
	if a.Kind == 11 {
		s.add(a.Place)
	}
	if a.Kind == 6 || a.Kind == 7 && pointer || a.Kind == 10 {
		s.add(api.Place{Kind: 4})
	}
	if a.Kind == 7 && pointer {
		s.whole(a.At.Cell)
	}
	if a.Kind == 8 && pointer {
		s.add(api.Place{Kind: 2, I: a.At.Cell})
	}
	for _, b := range gone {
		if a.Kind == 10 {
			s.whole(b.Cell)
		}
	}
	return s.list()
}

// holdFoot fails if Foot answers otherwise than the page says.
func holdFoot(t *testing.T, order int, a api.Act, gone []api.Bagged) {
	t.Helper()
	holdFootIs(t, order, a, gone, readsWants(a), writesWants(order, a, gone))
}

// holdFootIs is for an answer that is written out.
func holdFootIs(t *testing.T, order int, a api.Act, gone []api.Bagged, reads []api.Place, writes []api.Place) {
	t.Helper()
	if got := act.Foot(order, a, gone); !slices.Equal(got.Reads, reads) || !slices.Equal(got.Writes, writes) {
		t.Fatalf("Foot(%d, %+v, %v) = %+v, want %v and %v", order, a, gone, got, reads, writes)
	}
}

// chance is a row of numbers without a short beat.
type chance uint64

func (c *chance) next(below int) int {
	*c = *c*6364136223846793005 + 1442695040888963407
	return int(uint64(*c) >> 33 % uint64(below))
}

// number is mostly a small one, else one of the choice.
func (c *chance) number() int64 {
	if c.next(4) == 0 {
		return numbers[c.next(len(numbers))]
	}
	return int64(c.next(9)) - 2
}

// word is a plain one, a pointer, or one that no call makes.
func (c *chance) word() api.Word {
	l := words()
	if c.next(2) == 0 {
		return l[c.next(len(l))]
	}
	cell := c.next(7) + 1
	return api.Word{N: int64(cell), Cell: cell, Gen: c.next(4)}
}

// place is any, mostly one that there can be.
func (c *chance) place() api.Place {
	return api.Place{Kind: int(c.number()), I: int(c.number()), J: int(c.number())}
}

// operand is one that may be where that letter of chapter 9 stands, in a program that has all there can be.
func (c *chance) operand(letter byte, code int) int {
	switch letter {
	case 'r', 'g':
		return c.next(4)
	case 's', 'f':
		return c.next(2)
	case 't':
		return c.next(code + 1)
	case 'n':
		return int(c.number())
	}
	return 0
}

// shapes are the letters of the instructions' operands, by their numbers.
var shapes = []string{
	"", "----", "r--n", "rr--", "rrr-", "rrr-", "rrr-", "rrr-", "---t", "r--t", "rr-t", "rg--", "gr--", "rrrg", "rr-f", "rr-f", "rrrf",
	"----", "r---", "r---", "r---", "r--s", "---s", "----", "----", "----",
}

// instr is one that may be, in code of so many instructions.
func (c *chance) instr(op int, code int) api.Instr {
	s := shapes[op]
	return api.Instr{Op: op, A: c.operand(s[0], code), B: c.operand(s[1], code), C: c.operand(s[2], code), N: int64(c.operand(s[3], code))}
}

// prog may be.
func (c *chance) prog() api.Prog {
	p := program(c.next(4) + 1)
	for t := range p.Code {
		count := c.next(17)
		for range count {
			p.Code[t] = append(p.Code[t], c.instr(c.next(25)+1, count))
		}
	}
	return p
}

// thread is any, mostly one that goes on.
func (c *chance) thread() api.Thread {
	th := api.Thread{Pc: c.next(18) - 1, Fuel: c.next(17), Regs: [4]api.Word{c.word(), c.word(), c.word(), c.word()}, Old: int(c.number())}
	if c.next(4) == 0 {
		th.Micro = api.Micro{Kind: c.next(10), I: c.next(10) - 1, N: c.number(), Seen: make([]int64, c.next(3))}
	}
	if c.next(9) == 0 {
		th.Pc, th.Fuel, th.Status = int(c.number()), int(c.number()), int(c.number())
	}
	return th
}

// act is any.
func (c *chance) act() api.Act {
	return api.Act{Kind: c.next(13), Place: c.place(), At: c.word(), Want: c.word(), Word: c.word(), Gen: int(c.number())}
}

// gone is a list of up to so many, some of which may be the same.
func (c *chance) gone(longest int) []api.Bagged {
	var l []api.Bagged
	for range c.next(longest + 1) {
		l = append(l, api.Bagged{Cell: int(c.number()), Gen: int(c.number()), N: c.number()})
	}
	return l
}
