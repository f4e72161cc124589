package code

import (
	"warrener/api"
	"warrener/octet"
)

// wide is how many octets each number takes.
const wide = 8

// writer gathers octets. How many numbers each thing has stands fast, or ahead of it, so that no two things have the same octets.
type writer struct {
	octets []byte
}

// list writes how many things a list has, and each of them.
func list[T any](w *writer, l []T, each func(T)) {
	w.numbers(len(l))
	for _, thing := range l {
		each(thing)
	}
}

// number writes a number.
func (w *writer) number(n int64) {
	w.octets = append(w.octets, octet.Put(nil, n, wide)...)
}

// numbers writes numbers, one behind the other.
func (w *writer) numbers(l ...int) {
	for _, n := range l {
		w.number(int64(n))
	}
}

// word writes a word.
func (w *writer) word(v api.Word) {
	w.number(v.N)
	w.numbers(v.Cell, v.Gen)
}

// words writes words whose count stands fast.
func (w *writer) words(l ...api.Word) {
	for _, v := range l {
		w.word(v)
	}
}

// thread writes a thread.
func (w *writer) thread(th api.Thread) {
	w.numbers(th.Pc, th.Fuel, th.Status)
	w.words(th.Regs[:]...)
	w.numbers(th.Micro.Kind, th.Micro.I)
	w.number(th.Micro.N)
	list(w, th.Micro.Seen, w.number)
	list(w, th.Bag, func(b api.Bagged) {
		w.numbers(b.Cell, b.Gen)
		w.number(b.N)
	})
	list(w, th.Snap, w.number)
	w.numbers(th.Old)
}

// buffer writes the stores that wait in a buffer.
func (w *writer) buffer(l []api.Entry) {
	list(w, l, func(e api.Entry) {
		w.numbers(e.Place.Kind, e.Place.I, e.Place.J)
		w.word(e.Word)
		w.numbers(e.Gen, e.Pc)
	})
}

// shared writes what all threads of a state share.
func (w *writer) shared(s api.State) {
	list(w, s.Roots, w.word)
	list(w, s.Slots, w.word)
	list(w, s.Cells, func(c api.Cell) {
		w.numbers(c.Status, c.Gen, c.By, c.Pc)
		w.words(c.F[:]...)
	})
	list(w, s.Free, func(n int) { w.numbers(n) })
	w.number(s.Epoch)
	list(w, s.Marks, w.number)
	list(w, s.Counts, w.number)
}
