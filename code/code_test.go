package code_test

import (
	"bytes"
	"slices"
	"testing"

	"warrener/api"
	"warrener/code"
)

// holdOctets holds octets against those of a row.
func holdOctets(t *testing.T, what string, got []byte, row []int64) {
	t.Helper()
	if want := octetsOf(row...); !bytes.Equal(got, want) {
		t.Fatalf("%s:\n%v\nwant\n%v", what, got, want)
	}
}

// The chapter's example.
func TestExample(t *testing.T) {
	b := code.Thread(api.Thread{Pc: 1})
	if !bytes.Equal(b[:8], []byte{0, 0, 0, 0, 0, 0, 0, 1}) {
		t.Fatalf("a number 1: %v", b[:8])
	}
}

// P28.1: octets written out, of numbers whose octets are all another, and below 0.
func TestOctetsOneByOne(t *testing.T) {
	b := code.Buffer([]api.Entry{{Place: api.Place{Kind: 0x0102030405060708, I: -1, J: -2}, Word: api.Word{N: least, Cell: most, Gen: 256}, Gen: -256, Pc: 3}})
	want := []byte{
		0, 0, 0, 0, 0, 0, 0, 1,
		1, 2, 3, 4, 5, 6, 7, 8,
		255, 255, 255, 255, 255, 255, 255, 255,
		255, 255, 255, 255, 255, 255, 255, 254,
		128, 0, 0, 0, 0, 0, 0, 0,
		127, 255, 255, 255, 255, 255, 255, 255,
		0, 0, 0, 0, 0, 0, 1, 0,
		255, 255, 255, 255, 255, 255, 255, 0,
		0, 0, 0, 0, 0, 0, 0, 3,
	}
	if !bytes.Equal(b, want) {
		t.Fatalf("%v\nwant\n%v", b, want)
	}
}

// unlike is a thread in which no two fields are the same, with so many in each of its lists, numbered as they stand on the page.
func unlike(seen, bag, snap int) api.Thread {
	var c counter
	th := api.Thread{Pc: c.int(), Fuel: c.int(), Status: c.int()}
	th.Regs = [4]api.Word{c.word(), c.word(), c.word(), c.word()}
	th.Micro = api.Micro{Kind: c.int(), I: c.int(), N: c.number()}
	for range seen {
		th.Micro.Seen = append(th.Micro.Seen, c.number())
	}
	for range bag {
		th.Bag = append(th.Bag, api.Bagged{Cell: c.int(), Gen: c.int(), N: c.number()})
	}
	for range snap {
		th.Snap = append(th.Snap, c.number())
	}
	th.Old = c.int()
	return th
}

// P28.1: a thread whose fields are numbered: they rise, with how many a list has ahead of it.
func TestThreadOneByOne(t *testing.T) {
	holdOctets(t, "the empty thread", code.Thread(api.Thread{}), make([]int64, 22))
	holdOctets(t, "no lists", code.Thread(unlike(0, 0, 0)), with(upTo(19), 18, 0, 0, 0))
	for seen := range 4 {
		for bag := range 4 {
			for snap := range 4 {
				row := upTo(int64(19 + seen + 3*bag + snap))
				row = with(row, 18+seen+3*bag, int64(snap))
				row = with(row, 18+seen, int64(bag))
				row = with(row, 18, int64(seen))
				holdOctets(t, "a thread", code.Thread(unlike(seen, bag, snap)), row)
			}
		}
	}
}

// P28.1: each field of a thread, with each number.
func TestThreadNumbers(t *testing.T) {
	for _, n := range numbers {
		w := api.Word{N: n, Cell: int(n), Gen: int(n)}
		th := api.Thread{Pc: int(n), Fuel: int(n), Status: int(n), Regs: [4]api.Word{w, w, w, w}, Old: int(n)}
		th.Micro = api.Micro{Kind: int(n), I: int(n), N: n, Seen: []int64{n, n}}
		th.Bag, th.Snap = []api.Bagged{{Cell: int(n), Gen: int(n), N: n}}, []int64{n, n, n}
		row := slices.Concat(slices.Repeat([]int64{n}, 18), []int64{2, n, n, 1, n, n, n, 3, n, n, n, n})
		holdOctets(t, "a thread", code.Thread(th), row)
	}
}

// P28.1: any thread.
func TestThread(t *testing.T) {
	c := chance(3)
	for range 5000 {
		th := c.thread()
		holdOctets(t, "a thread", code.Thread(th), threadRow(th))
	}
}

// P28.1: buffers of none, and of entries whose fields are numbered.
func TestBufferOneByOne(t *testing.T) {
	holdOctets(t, "nil", code.Buffer(nil), []int64{0})
	holdOctets(t, "none", code.Buffer([]api.Entry{}), []int64{0})
	var c counter
	var l []api.Entry
	for count := int64(1); count <= 9; count++ {
		l = append(l, api.Entry{Place: api.Place{Kind: c.int(), I: c.int(), J: c.int()}, Word: c.word(), Gen: c.int(), Pc: c.int()})
		holdOctets(t, "a buffer", code.Buffer(l), with(upTo(8*count), 0, count))
	}
	for _, n := range numbers {
		e := api.Entry{Place: api.Place{Kind: int(n), I: int(n), J: int(n)}, Word: api.Word{N: n, Cell: int(n), Gen: int(n)}, Gen: int(n), Pc: int(n)}
		holdOctets(t, "two", code.Buffer([]api.Entry{e, e}), with(slices.Repeat([]int64{n}, 16), 0, 2))
	}
}

// P28.1: any buffer.
func TestBuffer(t *testing.T) {
	c := chance(5)
	for range 5000 {
		l := c.buffer()
		holdOctets(t, "a buffer", code.Buffer(l), bufferRow(l))
	}
}

// numbered is a state of no threads in which no two fields are the same, with so many in each of its lists, numbered as they stand on the page.
func numbered(roots, slots, cells, free, marks, counts int) api.State {
	var c counter
	var s api.State
	for range roots {
		s.Roots = append(s.Roots, c.word())
	}
	for range slots {
		s.Slots = append(s.Slots, c.word())
	}
	for range cells {
		s.Cells = append(s.Cells, api.Cell{Status: c.int(), Gen: c.int(), By: c.int(), Pc: c.int(), F: [2]api.Word{c.word(), c.word()}})
	}
	for range free {
		s.Free = append(s.Free, c.int())
	}
	s.Epoch = c.number()
	for range marks {
		s.Marks = append(s.Marks, c.number())
	}
	for range counts {
		s.Counts = append(s.Counts, c.number())
	}
	return s
}

// P28.1: what is shared, its fields numbered: they rise, with how many a list has ahead of it.
func TestSharedOneByOne(t *testing.T) {
	holdOctets(t, "the empty state", code.Shared(api.State{}), make([]int64, 7))
	holdOctets(t, "a lone epoch", code.Shared(api.State{Epoch: -5}), []int64{0, 0, 0, 0, -5, 0, 0})
	for i := range 729 {
		roots, slots, cells, free, marks, counts := i%3, i/3%3, i/9%3, i/27%3, i/81%3, i/243%3
		words := 3 * (roots + slots)
		row := upTo(int64(words + 10*cells + free + 1 + marks + counts))
		row = with(row, words+10*cells+free+1+marks, int64(counts))
		row = with(row, words+10*cells+free+1, int64(marks))
		row = with(row, words+10*cells, int64(free))
		row = with(row, words, int64(cells))
		row = with(row, 3*roots, int64(slots))
		row = with(row, 0, int64(roots))
		holdOctets(t, "what is shared", code.Shared(numbered(roots, slots, cells, free, marks, counts)), row)
	}
}

// P28.1: each field of what is shared, with each number.
func TestSharedNumbers(t *testing.T) {
	for _, n := range numbers {
		w := api.Word{N: n, Cell: int(n), Gen: int(n)}
		s := api.State{Roots: []api.Word{w}, Slots: []api.Word{w, w}, Free: []int{int(n), int(n)}, Epoch: n, Marks: []int64{n, n, n}, Counts: []int64{n}}
		s.Cells = []api.Cell{{Status: int(n), Gen: int(n), By: int(n), Pc: int(n), F: [2]api.Word{w, w}}}
		row := []int64{1, n, n, n, 2, n, n, n, n, n, n, 1, n, n, n, n, n, n, n, n, n, n, 2, n, n, n, 3, n, n, n, 1, n}
		holdOctets(t, "what is shared", code.Shared(s), row)
	}
}

// P28.1: what any state shares; its threads and buffers are not in it.
func TestShared(t *testing.T) {
	for _, s := range states(7, 5000) {
		holdOctets(t, "what is shared", code.Shared(s), sharedRow(s))
		alone := s
		alone.Threads, alone.Buffers = nil, nil
		holdOctets(t, "what is shared", code.Shared(s), stateRow(alone)[2:])
	}
}

// full is a state of so many threads and buffers, all unlike.
func full(threads, buffers int) api.State {
	c := chance(100 + 10*threads + buffers)
	s := c.state()
	s.Threads, s.Buffers = nil, nil
	for range threads {
		s.Threads = append(s.Threads, c.thread())
	}
	for range buffers {
		s.Buffers = append(s.Buffers, c.buffer())
	}
	return s
}

// P28.1: Put is how many threads, each of them, how many buffers, each of them, and what is shared.
func TestPutParts(t *testing.T) {
	for threads := range 7 {
		for buffers := range 7 {
			s := full(threads, buffers)
			want := octetsOf(int64(threads))
			for _, th := range s.Threads {
				want = append(want, code.Thread(th)...)
			}
			want = append(want, octetsOf(int64(buffers))...)
			for _, l := range s.Buffers {
				want = append(want, code.Buffer(l)...)
			}
			want = append(want, code.Shared(s)...)
			if got := code.Put(s); !bytes.Equal(got, want) {
				t.Fatalf("Put of %d threads and %d buffers:\n%v\nwant\n%v", threads, buffers, got, want)
			}
			holdOctets(t, "Put", code.Put(s), stateRow(s))
		}
	}
	holdOctets(t, "the empty state", code.Put(api.State{}), make([]int64, 9))
}

// P28.1: any state.
func TestPut(t *testing.T) {
	for _, s := range states(11, 5000) {
		holdOctets(t, "Put", code.Put(s), stateRow(s))
	}
}

// P28.1, P5: nil and empty lists are one.
func TestNilAndEmpty(t *testing.T) {
	th := api.Thread{Micro: api.Micro{Seen: []int64{}}, Bag: []api.Bagged{}, Snap: []int64{}}
	if !bytes.Equal(code.Thread(th), code.Thread(api.Thread{})) {
		t.Fatal("Thread parts nil and empty lists")
	}
	s := api.State{Threads: []api.Thread{}, Buffers: [][]api.Entry{}, Roots: []api.Word{}, Slots: []api.Word{}, Cells: []api.Cell{}, Free: []int{}, Marks: []int64{}, Counts: []int64{}}
	if !bytes.Equal(code.Shared(s), code.Shared(api.State{})) || !bytes.Equal(code.Put(s), code.Put(api.State{})) || code.Hash(s) != code.Hash(api.State{}) {
		t.Fatal("a state parts nil and empty lists")
	}
	s.Threads, s.Buffers = []api.Thread{th}, [][]api.Entry{{}}
	other := api.State{Threads: []api.Thread{{}}, Buffers: [][]api.Entry{nil}}
	if !bytes.Equal(code.Put(s), code.Put(other)) || code.Hash(s) != code.Hash(other) {
		t.Fatal("a state parts nil and empty lists of its threads and buffers")
	}
}
