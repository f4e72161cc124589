package code_test

import (
	"encoding/binary"
	"math"
	"slices"

	"warrener/api"
)

// What the page says, word by word, in another way than the program goes: rows of numbers first, and octets of a whole row.

const (
	least = math.MinInt64
	most  = math.MaxInt64
)

// numbers are ordinary ones, those about the bounds, and those that are another one when they are cut to fewer bits, or but for their sign.
var numbers = []int64{
	least, least + 1, least / 2, -1 << 32, -1<<32 + 1, -257, -256, -255, -129, -128, -3, -2, -1,
	0, 1, 2, 3, 64, 127, 128, 255, 256, 257, 1<<15 - 1, 1 << 15, 1 << 16, 1 << 24, 1 << 31, 1<<32 - 1, 1 << 32, 1<<32 + 1, 1 << 40, 1 << 48, 1 << 56, most / 2, most - 1, most,
}

// octetsOf are the library's own eight of each number.
func octetsOf(row ...int64) []byte {
	b := []byte{}
	for _, n := range row {
		b = binary.BigEndian.AppendUint64(b, uint64(n))
	}
	return b
}

// threadRow is what stands in a thread's octets.
func threadRow(th api.Thread) []int64 {
	row := []int64{int64(th.Pc), int64(th.Fuel), int64(th.Status)}
	for i := range 4 {
		row = append(row, th.Regs[i].N, int64(th.Regs[i].Cell), int64(th.Regs[i].Gen))
	}
	row = append(row, int64(th.Micro.Kind), int64(th.Micro.I), th.Micro.N, int64(len(th.Micro.Seen)))
	row = append(row, th.Micro.Seen...)
	row = append(row, int64(len(th.Bag)))
	for _, b := range th.Bag {
		row = append(row, int64(b.Cell), int64(b.Gen), b.N)
	}
	row = append(append(row, int64(len(th.Snap))), th.Snap...)
	return append(row, int64(th.Old))
}

// bufferRow is what stands in a buffer's octets.
func bufferRow(l []api.Entry) []int64 {
	row := []int64{int64(len(l))}
	for _, e := range l {
		row = append(row, int64(e.Place.Kind), int64(e.Place.I), int64(e.Place.J), e.Word.N, int64(e.Word.Cell), int64(e.Word.Gen), int64(e.Gen), int64(e.Pc))
	}
	return row
}

// sharedRow is what stands in the octets of what is shared.
func sharedRow(s api.State) []int64 {
	var row []int64
	for _, l := range [][]api.Word{s.Roots, s.Slots} {
		row = append(row, int64(len(l)))
		for _, w := range l {
			row = append(row, w.N, int64(w.Cell), int64(w.Gen))
		}
	}
	row = append(row, int64(len(s.Cells)))
	for _, c := range s.Cells {
		row = append(row, int64(c.Status), int64(c.Gen), int64(c.By), int64(c.Pc))
		row = append(row, c.F[0].N, int64(c.F[0].Cell), int64(c.F[0].Gen), c.F[1].N, int64(c.F[1].Cell), int64(c.F[1].Gen))
	}
	row = append(row, int64(len(s.Free)))
	for _, n := range s.Free {
		row = append(row, int64(n))
	}
	row = append(row, s.Epoch, int64(len(s.Marks)))
	row = append(append(row, s.Marks...), int64(len(s.Counts)))
	return append(row, s.Counts...)
}

// stateRow is what stands in a state's octets.
func stateRow(s api.State) []int64 {
	row := []int64{int64(len(s.Threads))}
	for _, th := range s.Threads {
		row = append(row, threadRow(th)...)
	}
	row = append(row, int64(len(s.Buffers)))
	for _, l := range s.Buffers {
		row = append(row, bufferRow(l)...)
	}
	return append(row, sharedRow(s)...)
}

// mixed is chapter 3's Mix.
func mixed(a, b uint64) uint64 {
	x := 11400714819323198485*a + b
	x ^= x / (1 << 32)
	x *= 13787848793156543929
	return x ^ x/(1<<29)
}

// sumWants is chapter 3's Sum of a seed, and of the octets of a row.
func sumWants(seed uint64, row []int64) uint64 {
	b := octetsOf(row...)
	sum := mixed(seed, uint64(len(b)))
	for i := range b {
		sum = mixed(sum, uint64(b[i]))
	}
	return sum
}

// hashWants is a state's sum.
func hashWants(s api.State) uint64 {
	sum := uint64(0) ^ sumWants(128, sharedRow(s))
	for i := len(s.Buffers) - 1; i >= 0; i-- {
		sum ^= sumWants(64+uint64(i), bufferRow(s.Buffers[i]))
	}
	for i := len(s.Threads) - 1; i >= 0; i-- {
		sum ^= sumWants(uint64(i), threadRow(s.Threads[i]))
	}
	return sum
}

// chance is a row of numbers without a short beat.
type chance uint64

func (c *chance) next(below int) int {
	*c = *c*6364136223846793005 + 1442695040888963407
	return int(uint64(*c) >> 33 % uint64(below))
}

// number is mostly a small one, else one of the choice.
func (c *chance) number() int64 {
	if c.next(4) == 0 {
		return numbers[c.next(len(numbers))]
	}
	return int64(c.next(5)) - 1
}

func (c *chance) int() int {
	return int(c.number())
}

func (c *chance) word() api.Word {
	return api.Word{N: c.number(), Cell: c.int(), Gen: c.int()}
}

// some is a list of up to three; one without any is nil, or empty.
func some[T any](c *chance, one func() T) []T {
	var l []T
	if c.next(2) == 0 {
		l = []T{}
	}
	for range c.next(4) {
		l = append(l, one())
	}
	return l
}

func (c *chance) bagged() api.Bagged {
	return api.Bagged{Cell: c.int(), Gen: c.int(), N: c.number()}
}

func (c *chance) thread() api.Thread {
	th := api.Thread{Pc: c.int(), Fuel: c.int(), Status: c.int(), Old: c.int()}
	for i := range th.Regs {
		th.Regs[i] = c.word()
	}
	th.Micro = api.Micro{Kind: c.int(), I: c.int(), N: c.number(), Seen: some(c, c.number)}
	th.Bag, th.Snap = some(c, c.bagged), some(c, c.number)
	return th
}

func (c *chance) entry() api.Entry {
	return api.Entry{Place: api.Place{Kind: c.int(), I: c.int(), J: c.int()}, Word: c.word(), Gen: c.int(), Pc: c.int()}
}

func (c *chance) buffer() []api.Entry {
	return some(c, c.entry)
}

func (c *chance) cell() api.Cell {
	return api.Cell{Status: c.int(), Gen: c.int(), By: c.int(), Pc: c.int(), F: [2]api.Word{c.word(), c.word()}}
}

func (c *chance) state() api.State {
	s := api.State{Threads: some(c, c.thread), Buffers: some(c, c.buffer), Epoch: c.number()}
	s.Roots, s.Slots, s.Cells, s.Free = some(c, c.word), some(c, c.word), some(c, c.cell), some(c, c.int)
	s.Marks, s.Counts = some(c, c.number), some(c, c.number)
	return s
}

// states are many of them.
func states(seed chance, count int) []api.State {
	c := seed
	l := make([]api.State, count)
	for i := range l {
		l[i] = c.state()
	}
	return l
}

// counter tells 1, 2, 3 and so on, so that no two fields are the same.
type counter int

func (c *counter) int() int {
	*c++
	return int(*c)
}

func (c *counter) number() int64 {
	return int64(c.int())
}

func (c *counter) word() api.Word {
	return api.Word{N: c.number(), Cell: c.int(), Gen: c.int()}
}

// upTo are the numbers from 1 on, up to so many.
func upTo(last int64) []int64 {
	var row []int64
	for n := int64(1); n <= last; n++ {
		row = append(row, n)
	}
	return row
}

// with is a copy of a row in which these numbers stand ahead of the one at that place.
func with(row []int64, at int, more ...int64) []int64 {
	return slices.Insert(slices.Clone(row), at, more...)
}
