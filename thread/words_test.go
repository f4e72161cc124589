package thread_test

import (
	"math"
	"math/big"
	"slices"
	"testing"

	"warrener/api"
	"warrener/thread"
)

const (
	least = math.MinInt64
	most  = math.MaxInt64
)

// statuses are those that there are, and numbers that are none: beside them, those that are one when they are cut to fewer bits, and both ends.
var statuses = []int{api.Running, api.Halted, api.Trapped, -1, 3, 4, -2, 256, 257, 258, 1 << 32, 1<<32 + 1, least, least + 1, most}

// kinds are those of micros, and numbers that are none.
var kinds = []int{
	api.MiNone, api.MiEnter, api.MiGuards, api.MiRelease, api.MiDate, api.MiMarks, api.MiAdvance, api.MiSnapshot, api.MiCounts,
	-1, 9, 10, -8, 256, 257, 1 << 32, 1<<32 + 1, least, least + 1, most,
}

// fuels are from none to the most, those beyond, those that are within when they are cut to fewer bits, and both ends.
var fuels = []int{0, 1, 2, 3, 7, 8, 14, 15, 16, 17, 18, 31, 32, 100, 256, 257, 1 << 31, 1 << 32, 1<<32 + 1, -1, -2, -15, -16, -17, -1 << 32, least, least + 1, most - 1, most}

// places are those of instructions, those beside them, those that are one when they are cut to fewer bits, and both ends.
var places = []int{0, 1, 2, 3, 4, 5, 8, 14, 15, 16, 17, 100, -1, -2, -3, -16, 256, 257, 1 << 31, 1 << 32, 1<<32 + 1, -1 << 32, -1<<32 + 1, least, least + 1, least + 2, most - 1, most}

// registers are those that there are, and numbers that are none.
var registers = []int{0, 1, 2, 3, -1, 4, 5, -2, -3, -4, 7, 8, 100, 256, 257, 1 << 31, 1 << 32, 1<<32 + 3, -1 << 32, least, least + 1, least + 3, most - 1, most}

// noRegisters are the numbers that are none.
var noRegisters = registers[4:]

// numbers are ordinary ones, those about the bounds, and those whose products just go round.
var numbers = []int64{
	least, least + 1, least + 2, least / 2, -1 << 32, -3037000500, -1 << 31, -1000003, -256, -16, -8, -7, -3, -2, -1,
	0, 1, 2, 3, 4, 5, 7, 8, 15, 16, 17, 255, 256, 1000003, 1 << 31, 1<<32 - 1, 1 << 32, 1<<32 + 1, 3037000500, most/2 + 1, most - 1, most,
}

// locals are the instructions that touch nothing that is shared, as chapter 9 names them, but fence.
var locals = []int{1, 2, 3, 4, 5, 6, 7, 8, 9, 10}

// others are the instructions that share, and fence.
var others = []int{11, 12, 13, 14, 15, 16, 17, 18, 19, 20, 21, 22, 23, 24, 25}

// noOps are numbers of no instruction: beside both ends, those that are one when they are cut to fewer bits or but for their sign, and both ends of int.
func noOps() []int {
	l := []int{0, -1, 26, 27, -2, 100, 255, 256, 1 << 32, least, least + 1, most - 1, most}
	for _, op := range slices.Concat(locals, []int{11, 17, 25}) {
		l = append(l, -op, ^op-100, op+32, op+64, op+256, op+1<<16, op+1<<32, op-1<<32, least+op, most-op)
	}
	return l
}

// words are of all kinds: plain ones, pointers, and those that no call makes, each once.
func words() []api.Word {
	l := []api.Word{
		{N: 1, Cell: 1, Gen: 0}, {N: 1, Cell: 1, Gen: 1}, {N: 1, Cell: 1, Gen: 2}, {N: 2, Cell: 2, Gen: 1}, {N: 6, Cell: 6, Gen: most},
		{N: 1, Cell: 2, Gen: 1}, {N: 0, Cell: 1, Gen: 1}, {N: 0, Cell: 2, Gen: 1}, {N: 0, Cell: 1, Gen: 2}, {N: -1, Cell: 3, Gen: -1}, {N: least, Cell: most, Gen: least}, {N: most, Cell: 1, Gen: 1},
		{N: 0, Cell: 0, Gen: 1}, {N: 1, Cell: 0, Gen: 1}, {N: 0, Cell: -1, Gen: 0}, {N: 1, Cell: -1, Gen: 1}, {N: 5, Cell: least, Gen: most},
	}
	for _, n := range numbers {
		l = append(l, api.Word{N: n})
	}
	return l
}

// code is of so many instructions, each unlike the others.
func code(count int) []api.Instr {
	var l []api.Instr
	for i := range count {
		l = append(l, api.Instr{Op: i%25 + 1, A: i % 4, B: i + 1, C: i + 2, N: int64(i) + 100})
	}
	return l
}

// retired are so many entries, each with three parts of its own.
func retired(count int) []api.Bagged {
	var l []api.Bagged
	for i := range count {
		l = append(l, api.Bagged{Cell: i + 1, Gen: i + 11, N: int64(i + 21)})
	}
	return l
}

// busy has something in each of its parts.
func busy() api.Thread {
	return api.Thread{
		Pc: 3, Fuel: 7, Status: api.Trapped,
		Regs:  [4]api.Word{{N: 1, Cell: 1, Gen: 2}, {N: -5}, {N: most}, {N: 3, Cell: 3, Gen: 1}},
		Micro: api.Micro{Kind: api.MiMarks, I: 1, N: 26, Seen: []int64{31, 32}},
		Bag:   retired(3),
		Snap:  []int64{41, 42},
		Old:   2,
	}
}

// running is the same thread at that place with so much fuel, going on, without a micro.
func running(pc int, fuel int) api.Thread {
	th := busy()
	th.Pc, th.Fuel, th.Status, th.Micro.Kind = pc, fuel, api.Running, api.MiNone
	return th
}

// holding is the same thread with those words in its registers.
func holding(regs ...api.Word) api.Thread {
	th := busy()
	copy(th.Regs[:], regs)
	return th
}

// same tells whether both threads are the same; nil and empty lists are one.
func same(a api.Thread, b api.Thread) bool {
	return a.Pc == b.Pc && a.Fuel == b.Fuel && a.Status == b.Status && a.Regs == b.Regs &&
		a.Micro.Kind == b.Micro.Kind && a.Micro.I == b.Micro.I && a.Micro.N == b.Micro.N && slices.Equal(a.Micro.Seen, b.Micro.Seen) &&
		slices.Equal(a.Bag, b.Bag) && slices.Equal(a.Snap, b.Snap) && a.Old == b.Old
}

// copied is the same thread, whose lists share nothing.
func copied(th api.Thread) api.Thread {
	th.Micro.Seen = append([]int64{}, th.Micro.Seen...)
	th.Bag = append([]api.Bagged{}, th.Bag...)
	th.Snap = append([]int64{}, th.Snap...)
	return th
}

// round takes a whole number of any size modulo 2^64, as a number with a sign.
func round(n *big.Int) int64 {
	whole := new(big.Int).Lsh(big.NewInt(1), 64)
	return int64(new(big.Int).Mod(n, whole).Uint64())
}

// doneWants is chapter 25's word.
func doneWants(th api.Thread, code []api.Instr) bool {
	if th.Status != 0 {
		return true
	}
	if th.Micro.Kind != 0 {
		return false
	}
	for pc := range code {
		if pc == th.Pc && th.Fuel > 0 {
			return false
		}
	}
	return true
}

// nextWants is P25.1.
func nextWants(th api.Thread, code []api.Instr) (api.Instr, bool) {
	for pc, x := range code {
		if pc == th.Pc && !doneWants(th, code) && th.Micro.Kind == 0 {
			return x, true
		}
	}
	return api.Instr{}, false
}

// startWants is P25.1.
func startWants(th api.Thread) api.Thread {
	th.Fuel = int(round(new(big.Int).Sub(big.NewInt(int64(th.Fuel)), big.NewInt(1))))
	th.Pc = int(round(new(big.Int).Add(big.NewInt(int64(th.Pc)), big.NewInt(1))))
	return th
}

// getWants is P25.1.
func getWants(th api.Thread, r int) api.Word {
	for i, w := range th.Regs {
		if i == r {
			return w
		}
	}
	return api.Word{}
}

// setWants is P25.1.
func setWants(th api.Thread, r int, w api.Word) api.Thread {
	for i := range th.Regs {
		if i == r {
			th.Regs[i] = w
		}
	}
	return th
}

// reckonWants is chapter 15's, by whole numbers of any size.
func reckonWants(op int, a int64, b int64) api.Word {
	x, y, n := big.NewInt(a), big.NewInt(b), new(big.Int)
	switch op {
	case 4:
		n.Add(x, y)
	case 5:
		n.Sub(x, y)
	case 6:
		n.Mul(x, y)
	case 7:
		n.Quo(x, y)
	}
	return api.Word{N: round(n)}
}

// localWants is P25.2.
func localWants(th api.Thread, x api.Instr) (api.Thread, bool) {
	a, b, c := getWants(th, x.A), getWants(th, x.B), getWants(th, x.C)
	if !slices.Contains(locals, x.Op) {
		return th, false
	}
	halts := x.Op == 1 || x.Op == 7 && c.N == 0
	jumps := x.Op == 8 || x.Op == 9 && a.N == 0 || x.Op == 10 && a.N == b.N
	switch {
	case halts:
		th.Status = 1
	case jumps:
		th.Pc = int(x.N)
	case x.Op == 2:
		th = setWants(th, x.A, api.Word{N: x.N})
	case x.Op == 3:
		th = setWants(th, x.A, b)
	case x.Op >= 4 && x.Op <= 7:
		th = setWants(th, x.A, reckonWants(x.Op, b.N, c.N))
	}
	return th, true
}

// holdLocal fails if Local answers otherwise than the page says, or if the thread that came in is turned.
func holdLocal(t *testing.T, th api.Thread, x api.Instr) {
	t.Helper()
	want, wantOk := localWants(th, x)
	holdLocalIs(t, th, x, want, wantOk)
}

// holdLocalIs is for an answer that is written out.
func holdLocalIs(t *testing.T, th api.Thread, x api.Instr, want api.Thread, wantOk bool) {
	t.Helper()
	was := copied(th)
	got, ok := thread.Local(th, x)
	if ok != wantOk || !same(got, want) {
		t.Fatalf("Local(%+v, %+v) = %+v, %v, want %+v, %v", th, x, got, ok, want, wantOk)
	}
	if !same(th, was) {
		t.Fatalf("Local(.., %+v) turned the thread that came in: %+v was %+v", x, th, was)
	}
}

// chance is a row of numbers without a short beat.
type chance uint64

func (c *chance) next(below int) int {
	*c = *c*6364136223846793005 + 1442695040888963407
	return int(uint64(*c) >> 33 % uint64(below))
}

// number is mostly a small one, else one about the ends, or any of all 64 bits.
func (c *chance) number() int64 {
	switch c.next(6) {
	case 0:
		return numbers[c.next(len(numbers))]
	case 1:
		return int64(c.next(1<<31))<<62 ^ int64(c.next(1<<31))<<31 ^ int64(c.next(1<<31))
	}
	return int64(c.next(6)) - 2
}

// one is mostly a small number, else one of the choice.
func (c *chance) one(below int, choice []int) int {
	if c.next(6) == 0 {
		return choice[c.next(len(choice))]
	}
	return c.next(below)
}

// word is a plain one or a pointer, seldom one that no call makes.
func (c *chance) word() api.Word {
	switch c.next(4) {
	case 0:
		cell := c.next(6) + 1
		return api.Word{N: int64(cell), Cell: cell, Gen: c.next(3)}
	case 1:
		return api.Word{N: c.number(), Cell: c.next(4) - 1, Gen: c.next(3) - 1}
	}
	return api.Word{N: c.number()}
}

// list is one of up to so many numbers.
func (c *chance) list(longest int) []int64 {
	l := make([]int64, c.next(longest+1))
	for i := range l {
		l[i] = c.number()
	}
	return l
}

// thread is any, mostly one that goes on.
func (c *chance) thread() api.Thread {
	th := api.Thread{Pc: c.one(6, places), Fuel: c.one(17, fuels), Bag: retired(c.next(4)), Snap: c.list(4), Old: c.next(5) - 1}
	for i := range th.Regs {
		th.Regs[i] = c.word()
	}
	if c.next(4) == 0 {
		th.Status = c.one(3, statuses)
	}
	if c.next(3) == 0 {
		th.Micro = api.Micro{Kind: c.one(9, kinds), I: c.next(9), N: c.number(), Seen: c.list(3)}
	}
	return th
}

// instr is any, mostly one that shares nothing, whose N is mostly a place.
func (c *chance) instr() api.Instr {
	x := api.Instr{Op: locals[c.next(len(locals))], A: c.one(4, registers), B: c.one(4, registers), C: c.one(4, registers), N: c.number()}
	if c.next(4) == 0 {
		x.Op = c.one(26, noOps())
	}
	return x
}

// local is an instruction that shares nothing.
func (c *chance) local() api.Instr {
	x := c.instr()
	x.Op = locals[c.next(len(locals))]
	return x
}

// code is of up to so many instructions that share nothing.
func (c *chance) code(longest int) []api.Instr {
	l := make([]api.Instr, c.next(longest+1))
	for i := range l {
		l[i] = c.local()
	}
	return l
}
