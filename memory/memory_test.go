package memory_test

import (
	"slices"
	"testing"

	"warrener/api"
	"warrener/memory"
)

// The chapter's example.
func TestExample(t *testing.T) {
	m := memory.New(program(1, 1, 0, 1))
	x := api.Place{Kind: root}
	if !m.Put(x, api.Word{N: 5}) {
		t.Fatal("Put root 0")
	}
	if w, ok := m.Get(x); w != (api.Word{N: 5}) || !ok {
		t.Fatalf("Get(root 0) = %v, %v", w, ok)
	}
	if !m.Undo(0) {
		t.Fatal("Undo(0)")
	}
	if w, ok := m.Get(x); w != (api.Word{}) || !ok {
		t.Fatalf("Get(root 0) = %v, %v", w, ok)
	}
}

// P26.1: how many roots, slots, marks and counts there are, written out.
func TestSizes(t *testing.T) {
	for _, x := range []struct {
		p                    api.Prog
		roots, slots, counts int
	}{
		{api.Prog{}, 0, 0, 0},
		{program(1, 1, 1, 1), 1, 1, 1},
		{program(3, 2, 1, 2), 3, 2, 2},
		{program(2, 0, 2, 3), 2, 6, 3},
		{program(4, 6, 2, 4), 4, 8, 4},
		{program(5, 7, 3, 5), 4, 8, 4},
		{program(0, 6, 0, 4), 0, 0, 4},
		{program(4, 6, 2, 0), 4, 0, 0},
		{program(-1, -1, -1, 5), 0, 0, 4},
		{program(most, most, most, 1), 4, 2, 1},
		{program(least, least, least, 4), 0, 0, 4},
	} {
		m := memory.New(x.p)
		if len(m.Roots()) != x.roots || len(m.Slots()) != x.slots || len(m.Marks()) != x.counts || len(m.Counts()) != x.counts {
			t.Fatalf("New(%s): %v, %v, %v, %v", told(x.p), m.Roots(), m.Slots(), m.Marks(), m.Counts())
		}
	}
}

// holdNew fails if a new memory has other places than the page says, or not the plain word 0 at each of them.
func holdNew(t *testing.T, p api.Prog) {
	t.Helper()
	b := newPair(t, p)
	for _, x := range about() {
		b.holdGet(x)
		if w, _ := b.m.Get(x); w != (api.Word{}) {
			t.Fatalf("New(%s): at first %v is %v", told(p), x, w)
		}
	}
	for _, w := range slices.Concat(b.m.Roots(), b.m.Slots()) {
		if w != (api.Word{}) {
			t.Fatalf("New(%s): at first there is %v", told(p), w)
		}
	}
	for _, n := range slices.Concat(b.m.Marks(), b.m.Counts(), []int64{b.m.Epoch(), int64(b.m.Mark())}) {
		if n != 0 {
			t.Fatalf("New(%s): at first there is %d", told(p), n)
		}
	}
	if b.m.Undo(1) || !b.m.Undo(0) {
		t.Fatalf("New(%s): something can be undone", told(p))
	}
}

// P26.1: New of all amounts about the bounds, with each other.
func TestNew(t *testing.T) {
	for roots := -1; roots <= 5; roots++ {
		for _, cells := range []int{-1, 0, 1, 6, 7} {
			for slots := -1; slots <= 3; slots++ {
				for threads := range 6 {
					holdNew(t, program(roots, cells, slots, threads))
				}
			}
		}
	}
}

// P26.1, P1: New of amounts of any size, of one thing after the other, beside none, a few and as many as there may be of the rest.
func TestNewGreat(t *testing.T) {
	for _, threads := range []int{0, 1, 4, 5, 257} {
		for _, rest := range []int{0, 2, most, least} {
			for _, n := range amounts {
				holdNew(t, program(n, rest, rest, threads))
				holdNew(t, program(rest, n, rest, threads))
				holdNew(t, program(rest, rest, n, threads))
				holdNew(t, program(n, n, n, threads))
			}
		}
	}
}

// P26.1, P1: New of great numbers of threads, and of threads of many instructions.
func TestNewLong(t *testing.T) {
	holdNew(t, program(2, 2, 1, 1<<16))
	holdNew(t, program(2, 2, 1, 1<<16+1))
	holdNew(t, api.Prog{Roots: 1, Slots: 2, Code: [][]api.Instr{make([]api.Instr, 1<<20), nil}})
}

// P26.1: how many cells there are makes no difference.
func TestCells(t *testing.T) {
	for _, n := range amounts {
		p := full()
		p.Cells = n
		b := newPair(t, p)
		b.fill(40)
		for cell := -1; cell <= 7; cell++ {
			for _, x := range []api.Place{{Kind: head, I: cell}, {Kind: field, I: cell}, {Kind: field, I: cell, J: 1}, {Kind: heap}} {
				if b.put(x, api.Word{N: 1}) {
					b.fail("Put(%v) = true", x)
				}
			}
		}
	}
}

// holdPlace puts a word at x of a memory whose places all have words, and holds what came of it.
func holdPlace(t *testing.T, b *pair, x api.Place, w api.Word) {
	t.Helper()
	to := b.m.Mark()
	b.holdGet(x)
	if got, want := b.put(x, w), hasWants(x, b.want.p); got != want {
		b.fail("Put(%v, %v) = %v, want %v", x, w, got, want)
	}
	b.undo(to)
}

// P26.1, P1: Get and Put of each kind of place, and of those that are none, with I and J of any size.
func TestGetPut(t *testing.T) {
	for _, p := range some() {
		b := newPair(t, p)
		b.fill(7)
		for _, kind := range slices.Concat(kinds, cells) {
			for _, i := range indices {
				for _, j := range indices {
					x := api.Place{Kind: kind, I: i, J: j}
					if !hasWants(x, p) && (b.m.Put(x, api.Word{N: 3, Cell: 1, Gen: 1}) || b.m.Put(x, api.Word{})) {
						b.fail("Put(%v) = true", x)
					}
					b.holdGet(x)
				}
				holdPlace(t, b, api.Place{Kind: kind, I: i}, api.Word{N: 2})
				holdPlace(t, b, api.Place{Kind: kind, J: i}, api.Word{N: 2})
				holdPlace(t, b, api.Place{Kind: kind, I: 1, J: i}, api.Word{N: 2})
			}
		}
		b.hold()
	}
}

// P26.1, P1: of kinds that are none, of heads, fields and the heap nothing is told and nothing is put.
func TestNoPlace(t *testing.T) {
	for _, p := range some() {
		b := newPair(t, p)
		b.fill(7)
		for _, kind := range slices.Concat(cells, others) {
			for _, i := range indices {
				for j := range 2 {
					x := api.Place{Kind: kind, I: i, J: j}
					if b.m.Put(x, words[0]) || b.m.Put(x, words[14]) {
						b.fail("Put(%v) = true", x)
					}
					if w, ok := b.m.Get(x); w != (api.Word{}) || ok {
						b.fail("Get(%v) = %v, %v", x, w, ok)
					}
				}
			}
			b.hold()
		}
	}
}

// P26.1: a memory has just those places about the bounds that the page names; that holds of Put as it does of Get.
func TestPutAbout(t *testing.T) {
	for _, p := range some() {
		b := newPair(t, p)
		for i, x := range about() {
			b.put(x, api.Word{N: int64(i) + 1, Cell: 2, Gen: 3})
		}
		if want := len(placesWant(p)); b.m.Mark() != want {
			b.fail("Mark() = %d, want %d", b.m.Mark(), want)
		}
		for _, x := range about() {
			b.holdGet(x)
		}
	}
}

// P26.1: words of all kinds at each place; of the epoch, marks and counts the number alone is kept.
func TestWords(t *testing.T) {
	b := newPair(t, full())
	for _, x := range placesWant(full()) {
		for _, w := range words {
			b.put(x, w)
			want := w
			if x.Kind == epoch || x.Kind == mark || x.Kind == count {
				want = api.Word{N: w.N}
			}
			if got, ok := b.m.Get(x); got != want || !ok {
				b.fail("Get(%v) = %v, %v, want %v", x, got, ok, want)
			}
		}
	}
}

// P26.1: what is kept of a word is what comes back behind an Undo, too, and in a clone.
func TestWordsBack(t *testing.T) {
	for _, x := range placesWant(full()) {
		for _, w := range words {
			b := newPair(t, full())
			b.put(x, w)
			b.put(x, api.Word{N: 77, Cell: 4, Gen: 4})
			c := b.clone()
			b.undo(1)
			c.undo(1)
			b.undo(0)
		}
	}
}

// P26.1, P26.3: a Put at one place turns no other one.
func TestPutAlone(t *testing.T) {
	for _, p := range some() {
		l := placesWant(p)
		for i, x := range l {
			b := newPair(t, p)
			b.put(x, api.Word{N: 9, Cell: 2, Gen: 5})
			for k, y := range l {
				if w, ok := b.m.Get(y); (w != api.Word{}) != (i == k) || !ok {
					b.fail("Get(%v) = %v, %v", y, w, ok)
				}
			}
			b.fill(30)
			b.put(x, api.Word{})
			b.put(x, api.Word{N: -8, Cell: 1, Gen: 1})
		}
	}
}

// P26.3: a place has what was put there last, also where it is what stood there, or what stood there once.
func TestPutTwice(t *testing.T) {
	b := newPair(t, full())
	for i, x := range placesWant(full()) {
		for k, w := range []api.Word{{N: 1}, {N: 1}, {N: 2, Cell: 2, Gen: 1}, {N: 2, Cell: 2, Gen: 1}, {N: 2, Cell: 2, Gen: 2}, {N: 1}, {}, {}} {
			if !b.put(x, w) {
				b.fail("Put(%v, %v) = false", x, w)
			}
			if b.m.Mark() != 8*i+k+1 {
				b.fail("Mark() = %d", b.m.Mark())
			}
		}
	}
}

// P26.1: the lists, written out: slots by threads, of each by slots.
func TestLists(t *testing.T) {
	m := memory.New(program(3, 1, 2, 3))
	for i := range 3 {
		m.Put(api.Place{Kind: root, I: i}, api.Word{N: int64(i + 1), Cell: i + 1, Gen: 1})
		m.Put(api.Place{Kind: slot, I: i, J: 1}, api.Word{N: int64(10*i + 2), Cell: 6, Gen: i})
		m.Put(api.Place{Kind: slot, I: i}, api.Word{N: int64(10*i + 1)})
		m.Put(api.Place{Kind: count, I: i}, api.Word{N: int64(-i), Cell: 1, Gen: 1})
		m.Put(api.Place{Kind: mark, I: 2 - i}, api.Word{N: int64(i + 50), Cell: 1, Gen: 1})
	}
	m.Put(api.Place{Kind: epoch}, api.Word{N: 99, Cell: 1, Gen: 1})
	if l := m.Roots(); !slices.Equal(l, []api.Word{{N: 1, Cell: 1, Gen: 1}, {N: 2, Cell: 2, Gen: 1}, {N: 3, Cell: 3, Gen: 1}}) {
		t.Fatalf("Roots() = %v", l)
	}
	if l := m.Slots(); !slices.Equal(l, []api.Word{{N: 1}, {N: 2, Cell: 6}, {N: 11}, {N: 12, Cell: 6, Gen: 1}, {N: 21}, {N: 22, Cell: 6, Gen: 2}}) {
		t.Fatalf("Slots() = %v", l)
	}
	if l := m.Marks(); !slices.Equal(l, []int64{52, 51, 50}) {
		t.Fatalf("Marks() = %v", l)
	}
	if l := m.Counts(); !slices.Equal(l, []int64{0, -1, -2}) {
		t.Fatalf("Counts() = %v", l)
	}
	if n := m.Epoch(); n != 99 {
		t.Fatalf("Epoch() = %d", n)
	}
}

// P26.1: the lists behind Puts at all places, in all programs, in order and from the end.
func TestListsOfAll(t *testing.T) {
	for _, p := range some() {
		b := newPair(t, p)
		b.fill(1000)
		for i, x := range slices.Backward(placesWant(p)) {
			b.put(x, api.Word{N: int64(-i), Cell: 3, Gen: i})
		}
		mixed(t, p)
	}
}

// P26.1: the numbers of the epoch, marks and counts may be any.
func TestNumbers(t *testing.T) {
	for _, w := range words {
		m := memory.New(program(0, 0, 0, 2))
		m.Put(api.Place{Kind: epoch}, w)
		m.Put(api.Place{Kind: mark, I: 1}, w)
		m.Put(api.Place{Kind: count}, w)
		if m.Epoch() != w.N || !slices.Equal(m.Marks(), []int64{0, w.N}) || !slices.Equal(m.Counts(), []int64{w.N, 0}) {
			t.Fatalf("of %v: %d, %v, %v", w, m.Epoch(), m.Marks(), m.Counts())
		}
	}
}
