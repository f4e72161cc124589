package memory_test

import (
	"slices"
	"testing"

	"warrener/api"
	"warrener/memory"
)

func holdMark(b *pair, want int) {
	b.t.Helper()
	if got := b.m.Mark(); got != want {
		b.fail("Mark() = %d, want %d", got, want)
	}
}

// P26.2: Mark goes up by one behind each Put that is true, and stays behind each call that is false, or that asks.
func TestMark(t *testing.T) {
	b := newPair(t, program(2, 3, 1, 2))
	holdMark(b, 0)
	b.put(api.Place{Kind: root, I: 1}, api.Word{N: 3})
	holdMark(b, 1)
	// A place that has the word already gets it again: that is a Put like any other.
	b.put(api.Place{Kind: root, I: 1}, api.Word{N: 3})
	holdMark(b, 2)
	b.put(api.Place{Kind: epoch}, api.Word{})
	holdMark(b, 3)
	for _, x := range []api.Place{{}, {Kind: root, I: 2}, {Kind: root, I: -1}, {Kind: head, I: 1}, {Kind: field, I: 1, J: 1}, {Kind: heap}, {Kind: slot, J: 1}, {Kind: slot, I: 2}, {Kind: epoch, J: 1}, {Kind: mark, I: 2}, {Kind: count, I: most}, {Kind: 9}} {
		if b.put(x, api.Word{N: 1}) {
			b.fail("Put(%v) = true", x)
		}
		holdMark(b, 3)
	}
	b.put(api.Place{Kind: slot, I: 1}, api.Word{N: 1, Cell: 1, Gen: 1})
	b.put(api.Place{Kind: mark, I: 1}, api.Word{N: 1})
	b.put(api.Place{Kind: count, I: 1}, api.Word{N: 1})
	holdMark(b, 6)
	b.undo(7)
	b.undo(-1)
	b.undo(6)
	b.clone()
	holdMark(b, 6)
	b.undo(2)
	holdMark(b, 2)
	b.put(api.Place{Kind: count}, api.Word{N: 1})
	holdMark(b, 3)
	b.undo(0)
	holdMark(b, 0)
}

// P26.2, P26.3: Undo to each mark from 0 to Mark() leads to what was there, once at one go and once mark by mark; Mark is then that mark.
func TestUndo(t *testing.T) {
	for _, p := range some() {
		b := mixed(t, p)
		for to := 0; to <= b.m.Mark(); to += 1 + to/9 {
			c := b.clone()
			if !c.undo(to) {
				c.fail("Undo(%d) = false", to)
			}
			holdMark(c, to)
		}
		for to := b.m.Mark(); to >= 0; to-- {
			if !b.undo(to) {
				b.fail("Undo(%d) = false", to)
			}
			holdMark(b, to)
		}
		for _, x := range placesWant(p) {
			if w, ok := b.m.Get(x); w != (api.Word{}) || !ok {
				b.fail("Get(%v) = %v, %v", x, w, ok)
			}
		}
	}
}

// P26.2: Undo to what is no mark is false, and changes nothing.
func TestUndoFalse(t *testing.T) {
	for _, b := range []*pair{mixed(t, full()), newPair(t, full()), newPair(t, api.Prog{}), mixed(t, api.Prog{})} {
		last := b.m.Mark()
		for _, to := range []int{-1, -2, last + 1, last + 2, -last - 1, last + 256, last + 1<<31, last + 1<<32, 1<<32 - 1, 1 << 31, 1 << 32, -256, -1 << 31, -1 << 32, most - 1, most, least, least + 1, least + last} {
			if b.undo(to) {
				b.fail("Undo(%d) of %d = true", to, last)
			}
		}
		if !b.undo(last) || !b.undo(0) || b.undo(1) || b.undo(last+1) {
			b.fail("Undo of %d", last)
		}
	}
}

// P26.2, P26.3: Undo twice, Puts behind an Undo, and Undo again, of places that were put several times.
func TestUndoAgain(t *testing.T) {
	p := program(2, 1, 1, 2)
	x, y := api.Place{Kind: root, I: 1}, api.Place{Kind: slot, I: 1}
	last := mixed(t, p).m.Mark()
	for first := 0; first <= last; first++ {
		b := mixed(t, p)
		b.undo(first)
		b.undo(first)
		if first < last && b.undo(first+1) {
			b.fail("Undo(%d) = true", first+1)
		}
		for i := range 3 {
			b.put(x, api.Word{N: int64(i) + 500})
			b.put(y, api.Word{N: int64(i) + 600, Cell: 2, Gen: i})
			b.put(x, api.Word{N: int64(i) + 700, Cell: 1, Gen: i})
		}
		b.undo(first + 5)
		b.put(y, api.Word{N: 800})
		b.undo(first + 1)
		b.put(x, api.Word{N: 900})
		for to := first + 2; to >= 0; to -= 1 + to/5 {
			b.undo(to)
		}
	}
}

// P26.3: rows of six Puts at three places, two words each, undone to each mark; then another Put is done, and undone.
func TestUndoOrders(t *testing.T) {
	steps := []put{
		{api.Place{Kind: root}, api.Word{N: 1, Cell: 1, Gen: 1}}, {api.Place{Kind: root}, api.Word{N: 2}},
		{api.Place{Kind: epoch}, api.Word{N: 3}}, {api.Place{Kind: epoch}, api.Word{N: 4}},
		{api.Place{Kind: slot}, api.Word{N: 5}}, {api.Place{Kind: slot}, api.Word{N: 6, Cell: 6, Gen: 6}},
	}
	const long, rows = 6, 6 * 6 * 6 * 6 * 6 * 6
	for row := 0; row < rows; row += 17 {
		b := newPair(t, program(1, 1, 1, 1))
		for n, left := row, long; left > 0; left-- {
			b.put(steps[n%6].x, steps[n%6].w)
			n /= 6
		}
		to := row % (long + 1)
		b.undo(to)
		b.put(steps[row%6].x, steps[row%6].w)
		b.undo(to)
		b.put(steps[row/6%6].x, steps[row/6%6].w)
		b.put(steps[row/36%6].x, steps[row/36%6].w)
		for to += 2; to >= 0; to-- {
			b.undo(to)
		}
	}
}

// P26.3: a long past comes back whole.
func TestLongPast(t *testing.T) {
	m, c, l := memory.New(full()), chance(26), placesWant(full())
	now := make([]api.Word, len(l))
	was := [][]api.Word{slices.Clone(now)}
	for range 20000 {
		i := c.next(len(l))
		now[i] = api.Word{N: int64(c.next(9))}
		m.Put(l[i], now[i])
		was = append(was, slices.Clone(now))
	}
	for to := len(was) - 1; to >= 0; to -= 1 + c.next(50) {
		if !m.Undo(to) || m.Mark() != to {
			t.Fatalf("Undo(%d): Mark() = %d", to, m.Mark())
		}
		for i, x := range l {
			if w, ok := m.Get(x); w != was[to][i] || !ok {
				t.Fatalf("Undo(%d): Get(%v) = %v, %v, want %v", to, x, w, ok, was[to][i])
			}
		}
	}
}

// P26.2: a clone has the same words and the same past, and both go on, and are undone, each by itself.
func TestClone(t *testing.T) {
	for _, p := range some() {
		b := newPair(t, p)
		c := b.clone()
		b.fill(10)
		c.hold()
		c.fill(90)
		b.hold()
		c.undo(0)
		b.hold()
		b.undo(0)
		c.hold()
	}
	b := mixed(t, program(2, 2, 1, 2))
	x, y := api.Place{Kind: root}, api.Place{Kind: count, I: 1}
	for to := 0; to <= b.m.Mark(); to++ {
		one := b.clone()
		two := one.clone()
		one.undo(to)
		two.hold()
		two.put(x, api.Word{N: 3000})
		two.put(y, api.Word{N: 3001})
		one.put(x, api.Word{N: 4000})
		one.put(y, api.Word{N: 4001})
		one.hold()
		two.hold()
		b.hold()
		two.undo(to)
		one.hold()
		one.undo(0)
		two.undo(0)
		b.hold()
	}
}

// P26.2: clones of a memory behind an Undo, and of clones; a clone outlives what becomes of the other one.
func TestCloneBehindUndo(t *testing.T) {
	b := mixed(t, program(1, 2, 2, 1))
	for b.m.Mark() > 2 {
		b.undo(b.m.Mark() - 2)
		c := b.clone()
		if c.undo(b.m.Mark() + 1) {
			c.fail("Undo of one more = true")
		}
		c.fill(50)
		d := c.clone()
		c.undo(0)
		d.undo(b.m.Mark())
		d.undo(b.m.Mark() - 1)
		b.hold()
	}
}

// P26.2: what the one puts in its past's place behind an Undo does not come into the other's past.
func TestClonePast(t *testing.T) {
	p := program(3, 0, 1, 1)
	b := newPair(t, p)
	b.fill(1)
	b.fill(20)
	last := b.m.Mark()
	for range 2 {
		c := b.clone()
		c.undo(1)
		c.fill(40)
		b.hold()
		d := b.clone()
		d.fill(60)
		c.fill(80)
		b.put(api.Place{Kind: root}, api.Word{N: 101})
		for to := last; to >= 0; to-- {
			c.undo(to)
			d.undo(to)
			b.hold()
		}
		b.undo(last)
	}
	for to := last; to >= 0; to-- {
		b.undo(to)
	}
}

// callByChance does one call, most often one that can be done.
func callByChance(b *pair, c *chance) {
	b.t.Helper()
	l := placesWant(b.want.p)
	x := l[c.next(len(l))]
	switch c.next(12) {
	case 0:
		x.I = indices[c.next(len(indices))]
	case 1:
		x.J = indices[c.next(len(indices))]
	case 2:
		x.Kind = 1 + c.next(8)
	case 3:
		x.Kind = others[c.next(len(others))]
	}
	switch c.next(7) {
	case 0:
		b.holdGet(x)
	case 1:
		if c.next(2) == 0 {
			b.undo(len(b.want.puts) + 2 - c.next(len(b.want.puts)/3+4))
		}
	default:
		b.put(x, words[c.next(len(words))])
	}
}

// P26.1 to P26.3: any Puts and Undos of any program, by chance, held against the list of Puts; clones and wrong calls among them.
func TestChance(t *testing.T) {
	for seed := range 60 {
		c := chance(seed)
		number := func() int {
			if c.next(5) == 0 {
				return amounts[c.next(len(amounts))]
			}
			return c.next(5)
		}
		b := newPair(t, program(number(), number(), number(), c.next(7)))
		all := []*pair{b}
		for range 200 {
			b = all[c.next(len(all))]
			callByChance(b, &c)
			if c.next(30) == 0 && len(all) < 4 {
				all = append(all, b.clone())
			}
		}
		for _, b := range all {
			b.hold()
			b.undo(0)
		}
	}
}
