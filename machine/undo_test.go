package machine_test

import (
	"cmp"
	"slices"
	"testing"

	"warrener/api"
	"warrener/scheme"
)

// every goes through all schedules of the pair's program from here on, up to so many edges, undoing each step; it answers how many edges are left.
func every(b *pair, edges int) int {
	b.t.Helper()
	for _, a := range b.able() {
		if edges == 0 {
			return 0
		}
		b.step(a)
		edges = every(b, edges-1)
		b.undo()
	}
	return edges
}

// P29.1, P29.2, P29.3, G4: all schedules of small programs, each step and each Undo held against a plain step.
func TestEvery(t *testing.T) {
	whole := 0
	for _, x := range smalls(t) {
		if left := every(newPair(t, x.p, x.c), 3000); left > 0 {
			whole++
		}
	}
	if whole < 12 {
		t.Fatalf("just %d of the programs were gone through", whole)
	}
}

// steps has any agent of the pair's that can do a step, if there is one.
func (c *chance) steps(b *pair) {
	b.t.Helper()
	if l := b.able(); len(l) > 0 {
		b.step(l[c.next(len(l))])
	}
}

// P29.3: behind all of a long schedule, all of it is undone, step by step, and done again, and undone again.
func TestUndoAll(t *testing.T) {
	c := chance(11)
	for range 80 {
		x := c.any(16)
		b := newPair(t, x.p, x.c)
		for range 2 {
			for l := b.able(); len(l) > 0; l = b.able() {
				b.step(l[c.next(len(l))])
			}
			undoAll(b)
		}
	}
}

// P29.1, P29.2, P29.3: steps, undone ones among them, and clones, by chance.
func TestChance(t *testing.T) {
	c := chance(13)
	for range 250 {
		x := c.any(16)
		l := []*pair{newPair(t, x.p, x.c)}
		for range 100 {
			b := l[c.next(len(l))]
			switch i := c.next(20); {
			case i < 4:
				b.undo()
			case i < 5 && len(l) < 3:
				l = append(l, b.clone())
			case i < 8:
				b.step(c.next(9) - 1)
			default:
				c.steps(b)
			}
		}
		for _, b := range l {
			b.hold()
		}
	}
}

// P29.1: what is told on the way of schedules by chance: each kind of key, and each rising, once.
func TestTold(t *testing.T) {
	c := chance(41)
	told := map[int]int{}
	for range 2000 {
		x := c.any(16)
		b := &pair{t: t, m: begun(t, x.p, x.c), was: []world{beginning(x.p, x.c)}}
		for l := b.able(); len(l) > 0; l = b.able() {
			keys, _ := b.try(l[c.next(len(l))])
			for i, k := range keys {
				told[k.Kind]++
				if i > 0 && !rises(keys[i-1], k) {
					b.fail("%v is told", keys)
				}
			}
		}
	}
	for kind := 1; kind <= 6; kind++ {
		if told[kind] == 0 {
			t.Fatalf("no key of kind %d was told: %v", kind, told)
		}
	}
}

// rises tells whether the key a stands ahead of b.
func rises(a api.Key, b api.Key) bool {
	return cmp.Or(cmp.Compare(a.Kind, b.Kind), cmp.Compare(a.Thread, b.Thread), cmp.Compare(a.Pc, b.Pc)) < 0
}

// P29.2, P29.3: another step behind an Undo, of another agent, leads to where it leads without.
func TestUndoThenOther(t *testing.T) {
	c := chance(17)
	for range 100 {
		x := c.any(12)
		b, other := newPair(t, x.p, x.c), newPair(t, x.p, x.c)
		for l := b.able(); len(l) > 0; l = b.able() {
			b.step(l[c.next(len(l))])
			b.undo()
			a := l[c.next(len(l))]
			b.step(a)
			other.step(a)
			if !sameState(b.m.State(), other.m.State()) || b.m.Hash() != other.m.Hash() {
				b.fail("State() = %+v, without an undo %+v", b.m.State(), other.m.State())
			}
		}
	}
}

// P29.2: a sum that was never asked for on the way is the one of the state; so is one that was asked for at some states alone.
func TestHashSeldom(t *testing.T) {
	c := chance(19)
	for range 300 {
		x := c.any(16)
		b := &pair{t: t, m: begun(t, x.p, x.c), was: []world{beginning(x.p, x.c)}}
		for range 80 {
			switch i := c.next(10); {
			case i < 3 && b.steps > 0:
				b.m.Undo()
				b.was, b.steps = b.was[:len(b.was)-1], b.steps-1
			case i < 9:
				b.try(c.next(b.m.Agents()))
			default:
				b.hold()
			}
		}
		b.hold()
	}
}

// P29.2: a clone stands at its origin's state, with no step to undo, and goes on apart from it; so does the origin.
func TestClone(t *testing.T) {
	for _, x := range smalls(t) {
		b := newPair(t, x.p, x.c)
		clones := []*pair{b.clone()}
		for l := b.able(); len(l) > 0; l = b.able() {
			b.step(l[len(l)-1])
			clones = append(clones, b.clone())
		}
		for _, c := range clones {
			for l := c.able(); len(l) > 0; l = c.able() {
				c.step(l[0])
			}
			b.hold()
		}
		undoAll(b)
		for _, c := range clones {
			c.hold()
			steps := c.m.Steps()
			undoAll(c)
			for range steps {
				c.step(c.able()[0])
			}
		}
		b.hold()
	}
}

// P29.2: clones of clones, and their origins, each go on by themselves.
func TestCloneOfClone(t *testing.T) {
	c := chance(23)
	for range 100 {
		x := c.any(16)
		l := []*pair{newPair(t, x.p, x.c)}
		for range 6 {
			b := l[c.next(len(l))].clone()
			for range 5 {
				b.step(c.next(b.m.Agents()))
			}
			l = append(l, b)
		}
		for _, b := range l {
			b.hold()
			undoAll(b)
		}
	}
}

// meets tells whether one of the feet of both agents writes what the other one touches, and whether both agents are of one thread.
func (b *pair) meets(a int, other int) bool {
	if threads := len(b.now().p.Code); a%threads == other%threads {
		return true
	}
	f, _ := b.m.Foot(a)
	g, _ := b.m.Foot(other)
	for _, x := range slices.Concat(f.Writes, f.Reads) {
		if slices.Contains(g.Writes, x) {
			return true
		}
	}
	for _, x := range f.Writes {
		if slices.Contains(g.Reads, x) {
			return true
		}
	}
	return false
}

// holdBoth fails if two steps whose feet do not clash lead elsewhere in the other order, or if one hinders the other.
func holdBoth(b *pair, a int, other int) {
	b.t.Helper()
	one, two := b.m.Clone(), b.m.Clone()
	_, ok := one.Step(a)
	_, okBehind := one.Step(other)
	_, okOther := two.Step(other)
	_, okOtherBehind := two.Step(a)
	if !ok || !okBehind || !okOther || !okOtherBehind {
		b.fail("%d and %d: %v, %v; %v, %v", a, other, ok, okBehind, okOther, okOtherBehind)
	}
	if !sameState(one.State(), two.State()) || one.Hash() != two.Hash() || one.Over() != two.Over() {
		b.fail("%d, then %d: %+v; %d, then %d: %+v", a, other, one.State(), other, a, two.State())
	}
}

// P29.4: steps of two threads whose feet do not clash lead to the same in both orders, and neither hinders the other.
func TestBothOrders(t *testing.T) {
	c := chance(29)
	pairs := 0
	for range 300 {
		x := c.any(12)
		b := &pair{t: t, m: begun(t, x.p, x.c), was: []world{beginning(x.p, x.c)}}
		for l := b.able(); len(l) > 0; l = b.able() {
			for i, a := range l {
				for _, other := range l[:i] {
					if !b.meets(a, other) {
						holdBoth(b, other, a)
						pairs++
					}
				}
			}
			b.try(l[c.next(len(l))])
		}
	}
	if pairs < 10000 {
		t.Fatalf("just %d pairs", pairs)
	}
}

// P29.4: one that can't step can't behind a step of another thread either.
func TestNoHelp(t *testing.T) {
	c := chance(31)
	for range 200 {
		x := c.any(12)
		b := &pair{t: t, m: begun(t, x.p, x.c), was: []world{beginning(x.p, x.c)}}
		for l := b.able(); len(l) > 0; l = b.able() {
			a := l[c.next(len(l))]
			var other []int
			for i := range b.m.Agents() {
				if i%len(x.p.Code) != a%len(x.p.Code) {
					other = append(other, i)
				}
			}
			was := slices.DeleteFunc(slices.Clone(other), func(i int) bool { return !b.m.Can(i) })
			b.try(a)
			if now := slices.DeleteFunc(other, func(i int) bool { return !b.m.Can(i) }); !slices.Equal(now, was) {
				b.fail("%v of the other threads' agents could step, and %v can", was, now)
			}
		}
	}
}

// P29.5: there are no more steps than chapter 24's Bound, and then nobody can step.
func TestBound(t *testing.T) {
	c := chance(37)
	for range 2000 {
		x := c.any(16)
		b := &pair{t: t, m: begun(t, x.p, x.c), was: []world{beginning(x.p, x.c)}}
		bound := scheme.Bound(x.p, x.c)
		for l := b.able(); len(l) > 0; l = b.able() {
			if b.m.Steps() >= bound {
				b.fail("%d steps, the bound is %d", b.m.Steps(), bound)
			}
			b.try(l[c.next(len(l))])
		}
		if !b.m.Over() || b.m.Steps() > bound {
			b.fail("%d steps, the bound is %d, over: %v", b.m.Steps(), bound, b.m.Over())
		}
	}
}

// P29.5: machines that take as many steps as there are, of each scheme.
func TestLongest(t *testing.T) {
	for _, x := range []struct {
		config, much, code string
		steps              int
	}{
		{"manual sc 1 16 1", "1 0 0", "jump 0", 16},
		{"manual tso 1 16 4", "1 0 0", "put 0 0; jump 0", 24},
		{"manual tso 1 1 4", "1 0 0", "put 0 0", 2},
		{"hazard sc 1 2 1", "0 1 2", "new 0; retire 0", 5},
		{"hazard sc 1 16 1", "0 1 2", "new 0; retire 0; jump 0", 16 + 5*3},
		{"epoch sc 1 16 1", "0 6 0", "new 0; retire 0; jump 0", 16 + 5*4},
		{"epoch tso 1 16 4", "0 0 0", "enter; jump 0", 32},
		{"quiet sc 1 16 1", "0 6 0", "new 0; retire 0; quiet; jump 0", 16 + 4*1 + 4*2},
	} {
		p, c := program(t, x.much, x.code), config(t, x.config)
		b := newPair(t, p, c)
		for l := b.able(); len(l) > 0; l = b.able() {
			b.step(l[len(l)-1])
		}
		if b.m.Steps() != x.steps || x.steps > scheme.Bound(p, c) || !b.m.Over() {
			b.fail("%d steps, want %d, the bound is %d", b.m.Steps(), x.steps, scheme.Bound(p, c))
		}
		undoAll(b)
	}
}
