package memory_test

import (
	"reflect"
	"slices"
	"sync"
	"testing"

	"warrener/api"
	"warrener/memory"
)

// P26.2: nil, and a memory that New did not make, answer false, 0, nothing, nil, in an order in which none helps the next one.
func TestStrangers(t *testing.T) {
	for i, m := range strangers() {
		for range 2 {
			for _, x := range about() {
				holdStranger(t, i, m, x)
			}
			for _, kind := range slices.Concat(kinds, cells, others) {
				for _, n := range indices {
					holdStranger(t, i, m, api.Place{Kind: kind, I: n})
					holdStranger(t, i, m, api.Place{Kind: kind, I: n, J: n})
				}
			}
		}
	}
}

func holdStranger(t *testing.T, i int, m *memory.Memory, x api.Place) {
	t.Helper()
	if m.Put(x, api.Word{N: 1, Cell: 1, Gen: 1}) || m.Put(x, api.Word{}) {
		t.Fatalf("%d: Put(%v) = true", i, x)
	}
	if w, ok := m.Get(x); w != (api.Word{}) || ok {
		t.Fatalf("%d: Get(%v) = %v, %v", i, x, w, ok)
	}
	if len(m.Roots()) != 0 || len(m.Slots()) != 0 || len(m.Marks()) != 0 || len(m.Counts()) != 0 || m.Epoch() != 0 || m.Mark() != 0 {
		t.Fatalf("%d: %v, %v, %v, %v, %d, %d", i, m.Roots(), m.Slots(), m.Marks(), m.Counts(), m.Epoch(), m.Mark())
	}
	if m.Undo(0) || m.Undo(x.I) || m.Undo(-1) || m.Undo(1) || m.Undo(most) || m.Undo(least) {
		t.Fatalf("%d: Undo = true", i)
	}
	if c := m.Clone(); c != nil {
		t.Fatalf("%d: Clone() = %v", i, c)
	}
}

// P1: a memory of a program of nothing is one: it has an epoch, and nothing more.
func TestNothing(t *testing.T) {
	for _, p := range []api.Prog{{}, {Code: [][]api.Instr{}}, program(-1, 6, 2, 0), program(least, most, most, 0)} {
		b := newPair(t, p)
		x := api.Place{Kind: epoch}
		if !b.put(x, api.Word{N: 4, Cell: 1, Gen: 1}) || b.m.Epoch() != 4 || b.m.Mark() != 1 {
			b.fail("Epoch() = %d", b.m.Epoch())
		}
		c := b.clone()
		b.undo(0)
		c.put(x, api.Word{N: -4})
		b.hold()
	}
}

// P2: a program that came in is as it was, behind its lists' ends, too; and what becomes of it is seen in no later answer.
func TestProgram(t *testing.T) {
	beyond := api.Instr{Op: 99, A: 98, B: 97, C: 96, N: 95}
	make5 := func() api.Prog {
		p := api.Prog{Roots: 2, Cells: 3, Slots: 1}
		for i := range 5 {
			p.Code = append(p.Code, []api.Instr{{Op: i + 1, A: 2, B: 3, C: 4, N: 5}, beyond}[:1])
		}
		p.Code = p.Code[:3]
		return p
	}
	p := make5()
	b := newPair(t, p)
	b.want.p = make5()
	b.fill(3)
	c := b.clone()
	if want := make5(); !reflect.DeepEqual(p, want) || !reflect.DeepEqual(p.Code[:5], want.Code[:5]) {
		t.Fatalf("of %v was made %v", want, p)
	}
	for i := range 5 {
		if p.Code[:5][i][:2][1] != beyond {
			t.Fatalf("behind thread %d stands %v", i, p.Code[:5][i][:2][1])
		}
		p.Code[:5][i] = nil
	}
	p.Roots, p.Slots, p.Code = 4, 2, append(p.Code[:0], make([][]api.Instr, 5)...)
	for _, b := range []*pair{b, c} {
		b.fill(70)
		for _, x := range about() {
			b.put(x, api.Word{N: 8, Cell: 1, Gen: 1})
		}
		b.undo(0)
	}
}

// spoil writes over a list, and over all the room behind it.
func spoil[T any](l []T, with T) {
	l = l[:cap(l)]
	for i := range l {
		l[i] = with
	}
}

// P2: lists that were answered are new memory each time: who turns one turns nothing else, and a later Put or Undo turns no list.
func TestAnswers(t *testing.T) {
	for _, p := range some() {
		b := mixed(t, p)
		roots, slots, marks, counts := b.m.Roots(), b.m.Slots(), b.m.Marks(), b.m.Counts()
		wantRoots, wantSlots, wantMarks, wantCounts := slices.Clone(roots), slices.Clone(slots), slices.Clone(marks), slices.Clone(counts)
		for range 2 {
			spoil(append(b.m.Roots(), api.Word{N: -55}), api.Word{N: -56, Cell: -57, Gen: -58})
			spoil(append(b.m.Slots(), api.Word{N: -55}), api.Word{N: -56, Cell: -57, Gen: -58})
			spoil(append(b.m.Marks(), -55), -56)
			spoil(append(b.m.Counts(), -55), -56)
			spoil(b.m.Roots(), api.Word{N: -59})
			spoil(b.m.Slots(), api.Word{N: -59})
			spoil(b.m.Marks(), -59)
			spoil(b.m.Counts(), -59)
			b.hold()
			c := b.clone()
			c.fill(200)
			b.fill(300)
			b.undo(b.m.Mark() / 2)
			b.undo(b.m.Mark() / 2)
			c.undo(0)
			b.hold()
		}
		if !slices.Equal(roots, wantRoots) || !slices.Equal(slots, wantSlots) || !slices.Equal(marks, wantMarks) || !slices.Equal(counts, wantCounts) {
			t.Fatalf("an answer was turned: %v, %v, %v, %v", roots, slots, marks, counts)
		}
	}
}

// P2: two memories of one program have nothing in common.
func TestTwo(t *testing.T) {
	p := full()
	b, c := newPair(t, p), newPair(t, p)
	b.fill(5)
	c.hold()
	c.fill(60)
	b.hold()
	b.undo(0)
	c.hold()
}

// P1: a memory that is copied as a struct, which no call does, is the same one: the words and the past of both still belong together.
func TestCopied(t *testing.T) {
	m, c, l := memory.New(full()), chance(7), placesWant(full())
	other := *m
	for range 200 {
		for range c.next(30) {
			one := []*memory.Memory{m, &other}[c.next(2)]
			one.Put(l[c.next(len(l))], api.Word{N: int64(c.next(9))})
		}
		one := []*memory.Memory{m, &other}[c.next(2)]
		one.Undo(c.next(one.Mark() + 1))
		if m.Mark() != other.Mark() || !slices.Equal(m.Slots(), other.Slots()) {
			t.Fatalf("%d, %v, of the other one %d, %v", m.Mark(), m.Slots(), other.Mark(), other.Slots())
		}
	}
	other.Undo(0)
	if !slices.Equal(m.Roots(), make([]api.Word, 4)) || !slices.Equal(m.Slots(), make([]api.Word, 8)) || !slices.Equal(m.Marks(), make([]int64, 4)) {
		t.Fatalf("behind Undo(0): %v, %v, %v", m.Roots(), m.Slots(), m.Marks())
	}
}

// P3: the same Puts lead to the same answers, each time, in whatever order a map is gone through.
func TestEachTime(t *testing.T) {
	first := mixed(t, full()).m
	for range 50 {
		m := mixed(t, full()).m.Clone().Clone()
		if !slices.Equal(m.Roots(), first.Roots()) || !slices.Equal(m.Slots(), first.Slots()) || !slices.Equal(m.Marks(), first.Marks()) || !slices.Equal(m.Counts(), first.Counts()) {
			t.Fatalf("%v, %v, %v, %v", m.Roots(), m.Slots(), m.Marks(), m.Counts())
		}
	}
}

// P3: memories tell the same whatever runs beside them; one that is not changed may be asked by many.
func TestBeside(t *testing.T) {
	shared := mixed(t, full())
	roots, slots, to := shared.m.Roots(), shared.m.Slots(), shared.m.Mark()
	var wait sync.WaitGroup
	for i := range 16 {
		wait.Go(func() {
			m, want := memory.New(full()), &model{p: full()}
			c := chance(i % 4)
			l := placesWant(full())
			for range 200 {
				x, w := l[c.next(len(l))], words[c.next(len(words))]
				if m.Put(x, w) != want.put(x, w) || !slices.Equal(m.Roots(), want.all(root)) || !slices.Equal(m.Slots(), want.all(slot)) || !slices.Equal(m.Marks(), want.numbers(mark)) {
					t.Errorf("%v, %v, %v", m.Roots(), m.Slots(), m.Marks())
					return
				}
				clone := shared.m.Clone()
				clone.Put(x, api.Word{N: 1})
				clone.Undo(c.next(to))
				if !slices.Equal(shared.m.Roots(), roots) || !slices.Equal(shared.m.Slots(), slots) || shared.m.Mark() != to {
					t.Error("a clone changed its original")
					return
				}
			}
		})
	}
	wait.Wait()
}
