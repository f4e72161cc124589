package code_test

import (
	"encoding/binary"

	"warrener/api"
)

// reader takes a state's octets apart.
type reader struct {
	octets []byte
}

func (r *reader) number() int64 {
	n := binary.BigEndian.Uint64(r.octets)
	r.octets = r.octets[8:]
	return int64(n)
}

func (r *reader) int() int {
	return int(r.number())
}

// read is a list, nil if it has none.
func read[T any](r *reader, one func() T) []T {
	var l []T
	for range r.number() {
		l = append(l, one())
	}
	return l
}

func (r *reader) word() api.Word {
	return api.Word{N: r.number(), Cell: r.int(), Gen: r.int()}
}

func (r *reader) bagged() api.Bagged {
	return api.Bagged{Cell: r.int(), Gen: r.int(), N: r.number()}
}

func (r *reader) thread() api.Thread {
	th := api.Thread{Pc: r.int(), Fuel: r.int(), Status: r.int()}
	for i := range th.Regs {
		th.Regs[i] = r.word()
	}
	th.Micro = api.Micro{Kind: r.int(), I: r.int(), N: r.number(), Seen: read(r, r.number)}
	th.Bag, th.Snap = read(r, r.bagged), read(r, r.number)
	th.Old = r.int()
	return th
}

func (r *reader) entry() api.Entry {
	return api.Entry{Place: api.Place{Kind: r.int(), I: r.int(), J: r.int()}, Word: r.word(), Gen: r.int(), Pc: r.int()}
}

func (r *reader) buffer() []api.Entry {
	return read(r, r.entry)
}

func (r *reader) cell() api.Cell {
	return api.Cell{Status: r.int(), Gen: r.int(), By: r.int(), Pc: r.int(), F: [2]api.Word{r.word(), r.word()}}
}

func (r *reader) state() api.State {
	var s api.State
	s.Threads, s.Buffers = read(r, r.thread), read(r, r.buffer)
	s.Roots, s.Slots, s.Cells, s.Free = read(r, r.word), read(r, r.word), read(r, r.cell), read(r, r.int)
	s.Epoch = r.number()
	s.Marks, s.Counts = read(r, r.number), read(r, r.number)
	return s
}
