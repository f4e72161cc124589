package foot_test

import (
	"cmp"
	"maps"
	"math"
	"slices"
	"sync"
	"testing"

	"warrener/api"
	"warrener/foot"
)

const (
	least = math.MinInt
	most  = math.MaxInt
)

// parts are what each of a place's three parts may be, rising.
var parts = []int{least, -1, 0, 1, most}

// beyond stands behind the lists that are handed in, where nobody may write.
var beyond = api.Place{Kind: 99, I: 98, J: 97}

// at is a place; of those by one number, one with a greater number stands behind.
func at(n int) api.Place {
	return api.Place{Kind: 1 + n/4, I: n / 2 % 2, J: n % 2}
}

// list is of those places.
func list(numbers ...int) []api.Place {
	var l []api.Place
	for _, n := range numbers {
		l = append(l, at(n))
	}
	return l
}

// row is the places from one number to another one, rising.
func row(from int, to int) []api.Place {
	var l []api.Place
	for n := from; n <= to; n++ {
		l = append(l, at(n))
	}
	return l
}

// f is a foot whose lists are as they are given.
func f(reads []api.Place, writes []api.Place) api.Foot {
	return api.Foot{Reads: reads, Writes: writes}
}

// all are the places whose parts are of those that may be, rising.
func all() []api.Place {
	var l []api.Place
	for _, kind := range parts {
		for _, i := range parts {
			for _, j := range parts {
				l = append(l, api.Place{Kind: kind, I: i, J: j})
			}
		}
	}
	return l
}

// falling is the list from its end on.
func falling(l []api.Place) []api.Place {
	back := slices.Clone(l)
	slices.Reverse(back)
	return back
}

// shuffled is the list, anyhow.
func shuffled(c *chance, l []api.Place) []api.Place {
	s := slices.Clone(l)
	for i := range s {
		j := c.next(i + 1)
		s[i], s[j] = s[j], s[i]
	}
	return s
}

// together is lists behind one another.
func together(lists ...[]api.Place) []api.Place {
	var l []api.Place
	for _, x := range lists {
		l = append(l, x...)
	}
	return l
}

// once are the places of the lists, rising as the page about places tells, each once.
func once(lists ...[]api.Place) []api.Place {
	seen := map[api.Place]int{}
	for _, x := range together(lists...) {
		seen[x]++
	}
	return slices.SortedFunc(maps.Keys(seen), func(a api.Place, b api.Place) int {
		if a.Kind != b.Kind {
			return cmp.Compare(a.Kind, b.Kind)
		}
		if a.I != b.I {
			return cmp.Compare(a.I, b.I)
		}
		return cmp.Compare(a.J, b.J)
	})
}

// inBoth tells whether a place stands in both lists.
func inBoth(a []api.Place, b []api.Place) bool {
	for _, x := range a {
		for _, y := range b {
			if x == y {
				return true
			}
		}
	}
	return false
}

// clashWants is the page's: one writes a place that the other reads or writes.
func clashWants(a api.Foot, b api.Foot) bool {
	return inBoth(a.Writes, b.Reads) || inBoth(a.Writes, b.Writes) || inBoth(b.Writes, a.Reads) || inBoth(b.Writes, a.Writes)
}

// sameWants is the page's: all places of each list stand in the other foot's.
func sameWants(a api.Foot, b api.Foot) bool {
	in := func(l []api.Place, other []api.Place) bool {
		for _, x := range l {
			if !slices.Contains(other, x) {
				return false
			}
		}
		return true
	}
	return in(a.Reads, b.Reads) && in(b.Reads, a.Reads) && in(a.Writes, b.Writes) && in(b.Writes, a.Writes)
}

func equal(a api.Foot, b api.Foot) bool {
	return slices.Equal(a.Reads, b.Reads) && slices.Equal(a.Writes, b.Writes)
}

func copied(a api.Foot) api.Foot {
	return f(slices.Clone(a.Reads), slices.Clone(a.Writes))
}

func holdOf(t *testing.T, reads []api.Place, writes []api.Place, want api.Foot) {
	t.Helper()
	if got := foot.Of(reads, writes); !equal(got, want) {
		t.Fatalf("Of(%v, %v) = %v, want %v", reads, writes, got, want)
	}
}

// holdEach fails if those places are not answered as reads by themselves, as writes by themselves, and as both.
func holdEach(t *testing.T, l []api.Place, want []api.Place) {
	t.Helper()
	holdOf(t, l, nil, f(want, nil))
	holdOf(t, nil, l, f(nil, want))
	holdOf(t, l, l, f(want, want))
}

func holdJoin(t *testing.T, a api.Foot, b api.Foot, want api.Foot) {
	t.Helper()
	if got := foot.Join(a, b); !equal(got, want) {
		t.Fatalf("Join(%v, %v) = %v, want %v", a, b, got, want)
	}
	if got := foot.Join(b, a); !equal(got, want) {
		t.Fatalf("Join(%v, %v) = %v, want %v", b, a, got, want)
	}
}

// holdAsked fails if the call's answer isn't that one, both ways round.
func holdAsked(t *testing.T, name string, call func(api.Foot, api.Foot) bool, a api.Foot, b api.Foot, want bool) {
	t.Helper()
	if got := call(a, b); got != want {
		t.Fatalf("%s(%v, %v) = %v, want %v", name, a, b, got, want)
	}
	if got := call(b, a); got != want {
		t.Fatalf("%s(%v, %v) = %v, want %v", name, b, a, got, want)
	}
}

func holdClash(t *testing.T, a api.Foot, b api.Foot, want bool) {
	t.Helper()
	holdAsked(t, "Clash", foot.Clash, a, b, want)
}

func holdSame(t *testing.T, a api.Foot, b api.Foot, want bool) {
	t.Helper()
	holdAsked(t, "Same", foot.Same, a, b, want)
}

// chance is a row of numbers without a short beat.
type chance uint64

func (c *chance) next(below int) int {
	*c = *c*6364136223846793005 + 1442695040888963407
	return int(uint64(*c) >> 33 % uint64(below))
}

// The chapter's example.
func TestExample(t *testing.T) {
	holdClash(t, f(list(0, 1), nil), f(list(1, 2), nil), false)
	holdClash(t, foot.Of(list(1), nil), foot.Of(list(1), nil), false)
}

// P19.1: no places, be the lists nil or without an element.
func TestOfNone(t *testing.T) {
	empty := [][]api.Place{nil, {}, list(3, 4)[:0]}
	for _, none := range empty {
		for _, other := range empty {
			holdOf(t, none, other, api.Foot{})
		}
		holdOf(t, none, list(2, 1), f(nil, list(1, 2)))
		holdOf(t, list(2, 1), none, f(list(1, 2), nil))
	}
}

// P19.1: one place, two and three, in all orders.
func TestOfFew(t *testing.T) {
	holdEach(t, list(5), list(5))
	holdEach(t, list(5, 6), list(5, 6))
	holdEach(t, list(6, 5), list(5, 6))
	for _, l := range [][]api.Place{list(2, 5, 9), list(2, 9, 5), list(5, 2, 9), list(5, 9, 2), list(9, 2, 5), list(9, 5, 2)} {
		holdEach(t, l, list(2, 5, 9))
	}
}

// P19.1: a place that stands there several times, side by side or apart, is told once.
func TestOfOften(t *testing.T) {
	for n := 2; n < 70; n++ {
		holdEach(t, slices.Repeat(list(7), n), list(7))
		holdEach(t, slices.Repeat(list(7, 3), n), list(3, 7))
		holdEach(t, together(list(8), slices.Repeat(list(7), n), list(2)), list(2, 7, 8))
	}
	holdEach(t, list(1, 1, 2), list(1, 2))
	holdEach(t, list(1, 2, 2), list(1, 2))
	holdEach(t, list(1, 2, 1), list(1, 2))
	holdEach(t, list(2, 1, 2), list(1, 2))
	holdEach(t, list(2, 2, 1), list(1, 2))
	holdEach(t, list(4, 1, 4, 2, 4, 3, 4, 0, 4), list(0, 1, 2, 3, 4))
	holdEach(t, list(3, 3, 1, 1, 2, 2, 1, 3), list(1, 2, 3))
	holdEach(t, list(3, 2, 1, 1, 2, 3), list(1, 2, 3))
}

// P19.1: lists of all lengths that rise, that fall, and that stand anyhow, each place once and several times.
func TestOfOrders(t *testing.T) {
	c := chance(19)
	for n := range 90 {
		up := row(0, n)
		holdEach(t, up, up)
		holdEach(t, falling(up), up)
		holdEach(t, shuffled(&c, up), up)
		holdEach(t, together(up, up), up)
		holdEach(t, together(up, falling(up)), up)
		holdEach(t, together(falling(up), up), up)
		holdEach(t, shuffled(&c, together(up, up, up)), up)
		holdEach(t, append(row(1, n), at(0)), up)
		holdEach(t, append(list(n), row(0, n)...), up)
	}
}

// P19.1: reads and writes have nothing to do with one another: what both are is told as both, what one is as that alone.
func TestOfBoth(t *testing.T) {
	holdOf(t, list(1), list(1), f(list(1), list(1)))
	holdOf(t, list(3, 1, 2), list(2, 3, 1), f(list(1, 2, 3), list(1, 2, 3)))
	holdOf(t, list(1), list(2), f(list(1), list(2)))
	holdOf(t, list(2), list(1), f(list(2), list(1)))
	holdOf(t, list(9, 5, 9), list(7, 5, 1, 7), f(list(5, 9), list(1, 5, 7)))
	c := chance(20)
	for n := range 30 {
		for m := range 30 {
			reads, writes := row(0, n), row(20, 20+m)
			holdOf(t, shuffled(&c, reads), shuffled(&c, writes), f(reads, writes))
			holdOf(t, shuffled(&c, writes), shuffled(&c, reads), f(writes, reads))
		}
	}
}

// P19.1: places whose parts are -1, 0, 1, the least and the greatest number: each by itself, and all of them, in all orders.
func TestOfParts(t *testing.T) {
	c := chance(21)
	up := all()
	holdEach(t, up, up)
	holdEach(t, falling(up), up)
	holdEach(t, together(up, up), up)
	holdEach(t, together(falling(up), up), up)
	for range 200 {
		holdEach(t, shuffled(&c, up), up)
		holdEach(t, shuffled(&c, together(up, up, up)), up)
	}
	for i, x := range up {
		holdEach(t, []api.Place{x}, []api.Place{x})
		holdEach(t, []api.Place{x, x}, []api.Place{x})
		for _, y := range up[i+1:] {
			holdEach(t, []api.Place{x, y}, []api.Place{x, y})
			holdEach(t, []api.Place{y, x}, []api.Place{x, y})
			holdEach(t, []api.Place{y, x, y}, []api.Place{x, y})
		}
	}
}

// P19.1: places rise by Kind, then by I, then by J, though the later parts go the other way.
func TestOfRises(t *testing.T) {
	holdEach(t, []api.Place{{Kind: 2, I: 1, J: 1}, {Kind: 1, I: 2, J: 2}}, []api.Place{{Kind: 1, I: 2, J: 2}, {Kind: 2, I: 1, J: 1}})
	holdEach(t, []api.Place{{Kind: 3, I: 2, J: 0}, {Kind: 3, I: 1, J: 1}}, []api.Place{{Kind: 3, I: 1, J: 1}, {Kind: 3, I: 2, J: 0}})
	holdEach(t, []api.Place{{Kind: 3, I: 2, J: 1}, {Kind: 3, I: 2, J: 0}}, []api.Place{{Kind: 3, I: 2, J: 0}, {Kind: 3, I: 2, J: 1}})
	holdEach(t, []api.Place{
		{Kind: api.PlCount, I: 0}, {Kind: api.PlHead, I: 6}, {Kind: api.PlHeap}, {Kind: api.PlField, I: 1, J: 1}, {Kind: api.PlRoot, I: 3}, {Kind: api.PlField, I: 1}, {Kind: api.PlMark, I: 1}, {Kind: api.PlEpoch}, {Kind: api.PlSlot, I: 2, J: 1},
	}, []api.Place{
		{Kind: api.PlRoot, I: 3}, {Kind: api.PlHead, I: 6}, {Kind: api.PlField, I: 1}, {Kind: api.PlField, I: 1, J: 1}, {Kind: api.PlHeap}, {Kind: api.PlSlot, I: 2, J: 1}, {Kind: api.PlEpoch}, {Kind: api.PlMark, I: 1}, {Kind: api.PlCount, I: 0},
	})
}

// P19.1: joined feet of which either or both have no reads, no writes, or neither.
func TestJoinNone(t *testing.T) {
	for _, none := range [][]api.Place{nil, {}, list(3, 4)[:0]} {
		empty := f(none, none)
		holdJoin(t, empty, empty, api.Foot{})
		holdJoin(t, empty, api.Foot{}, api.Foot{})
		for _, a := range []api.Foot{f(list(1, 4), none), f(none, list(2, 5)), f(list(1, 4), list(2, 5)), f(list(3), list(3))} {
			holdJoin(t, empty, a, a)
			holdJoin(t, api.Foot{}, a, a)
		}
		holdJoin(t, f(list(4, 1, 4), none), empty, f(list(1, 4), nil))
		holdJoin(t, f(none, list(4, 1, 4)), empty, f(nil, list(1, 4)))
		holdJoin(t, f(list(1), none), f(none, list(2)), f(list(1), list(2)))
		holdJoin(t, f(list(1), none), f(list(2), none), f(list(1, 2), nil))
		holdJoin(t, f(none, list(1)), f(none, list(2)), f(nil, list(1, 2)))
		holdJoin(t, f(list(1), none), f(none, list(1)), f(list(1), list(1)))
		holdJoin(t, f(list(1), list(3)), f(list(2), none), f(list(1, 2), list(3)))
		holdJoin(t, f(list(1), list(3)), f(none, list(2)), f(list(1), list(2, 3)))
	}
}

// P19.1: all reads of both, and all writes of both, rising, each once; nothing that one reads is told as written.
func TestJoin(t *testing.T) {
	holdJoin(t, f(list(1), list(2)), f(list(3), list(4)), f(list(1, 3), list(2, 4)))
	holdJoin(t, f(list(3), list(2)), f(list(1), list(4)), f(list(1, 3), list(2, 4)))
	holdJoin(t, f(list(1), list(2)), f(list(2), list(1)), f(list(1, 2), list(1, 2)))
	holdJoin(t, f(list(1, 3, 5), list(2, 4)), f(list(2, 3, 4), list(0, 4, 9)), f(list(1, 2, 3, 4, 5), list(0, 2, 4, 9)))
	holdJoin(t, f(list(1, 2), list(7)), f(list(1, 2), list(8)), f(list(1, 2), list(7, 8)))
	holdJoin(t, f(row(0, 9), nil), f(row(10, 19), row(5, 14)), f(row(0, 19), row(5, 14)))
	holdJoin(t, f(row(5, 14), row(0, 9)), f(row(10, 19), row(10, 19)), f(row(5, 19), row(0, 19)))
}

// P19.1: joined feet whose lists do not rise, and have a place twice.
func TestJoinAnyhow(t *testing.T) {
	holdJoin(t, f(list(3, 1, 3), list(2, 2)), f(list(2, 1), list(9, 4, 2, 9)), f(list(1, 2, 3), list(2, 4, 9)))
	holdJoin(t, f(list(2, 1), nil), f(list(4, 3), nil), f(list(1, 2, 3, 4), nil))
	holdJoin(t, f(nil, list(1, 1)), f(nil, list(1, 1)), f(nil, list(1)))
	c := chance(22)
	for n := range 60 {
		reads, writes := row(0, n), row(n/2, n+9)
		half := f(shuffled(&c, together(reads[n/3:], reads[n/2:])), shuffled(&c, writes[n/4:]))
		rest := f(falling(reads[:n/2+1]), shuffled(&c, together(writes[:n/2+1], writes)))
		holdJoin(t, half, rest, f(reads, writes))
	}
	up := all()
	holdJoin(t, f(falling(up[:80]), shuffled(&c, up[60:])), f(shuffled(&c, up[40:]), falling(up[:90])), f(up, up))
}

// P19.1: a foot joined with itself is that foot, rising, each place once.
func TestJoinSelf(t *testing.T) {
	for _, a := range []api.Foot{{}, f(list(1), nil), f(nil, list(1)), f(list(1, 2), list(2, 3)), f(row(0, 40), row(30, 70)), f(all(), all())} {
		holdJoin(t, a, a, a)
		turned := f(falling(together(a.Reads, a.Reads)), falling(a.Writes))
		holdJoin(t, turned, turned, a)
		holdJoin(t, turned, a, a)
	}
}

// P19.1: what is joined is Of all reads and all writes; in which order and how often feet are joined changes nothing.
func TestJoinIsOf(t *testing.T) {
	c := chance(23)
	for range 4000 {
		a, b, d := footByChance(&c), footByChance(&c), footByChance(&c)
		want := foot.Of(together(a.Reads, b.Reads), together(a.Writes, b.Writes))
		holdJoin(t, a, b, want)
		holdJoin(t, want, a, want)
		holdJoin(t, foot.Join(a, b), d, foot.Join(a, foot.Join(b, d)))
	}
}

// P19.1: two that read alone never clash, though they read the same.
func TestClashReads(t *testing.T) {
	for _, a := range [][]api.Place{nil, {}, list(1), list(2, 1), row(0, 70), all()} {
		for _, b := range [][]api.Place{nil, {}, list(1), list(1, 2), row(20, 90), all()} {
			holdClash(t, f(a, nil), f(b, nil), false)
			holdClash(t, f(a, []api.Place{}), f(b, list(1)[:0]), false)
		}
	}
}

// P19.1: one that writes what the other reads or writes.
func TestClash(t *testing.T) {
	holdClash(t, f(nil, list(1)), f(list(1), nil), true)
	holdClash(t, f(nil, list(1)), f(nil, list(1)), true)
	holdClash(t, f(list(1), list(2)), f(list(2), list(3)), true)
	holdClash(t, f(list(1), list(2)), f(list(3), list(1)), true)
	holdClash(t, f(list(1), list(2)), f(list(3), list(2)), true)
	holdClash(t, f(list(1), list(2)), f(list(2), list(1)), true)
	holdClash(t, f(list(1, 5), list(2)), f(list(1, 5), list(3)), false)
	holdClash(t, f(nil, list(1)), f(nil, list(2)), false)
	holdClash(t, f(list(1), nil), f(nil, list(2)), false)
	holdClash(t, f(list(1), list(2)), f(list(3), list(4)), false)
	holdClash(t, f(list(4), list(3)), f(list(2), list(1)), false)
	holdClash(t, f(row(0, 9), row(10, 19)), f(row(0, 9), row(20, 29)), false)
	holdClash(t, f(row(0, 9), row(10, 19)), f(row(9, 10), nil), true)
	holdClash(t, f(list(3, 1), list(9, 7, 8)), f(list(4, 2), list(6, 5)), false)
	holdClash(t, f(list(3, 1), list(9, 7, 8)), f(list(4, 2, 7), list(6, 5)), true)
}

// P19.1: a foot that reads and writes a place clashes with each that touches it; its own read and write are no clash with others.
func TestClashOwn(t *testing.T) {
	both := f(list(1), list(1))
	holdClash(t, both, both, true)
	holdClash(t, both, f(list(1), nil), true)
	holdClash(t, both, f(nil, list(1)), true)
	holdClash(t, both, f(list(2), list(2)), false)
	holdClash(t, both, api.Foot{}, false)
	holdClash(t, both, f(list(0, 2), list(3)), false)
}

// P19.1: a foot clashes with itself if it writes anything.
func TestClashSelf(t *testing.T) {
	for _, l := range [][]api.Place{nil, {}, list(1), list(2, 1), row(0, 40), all()} {
		holdClash(t, f(l, nil), f(l, nil), false)
		holdClash(t, f(nil, l), f(nil, l), len(l) > 0)
		holdClash(t, f(l, l), f(l, l), len(l) > 0)
		holdClash(t, f(l, list(5)), f(l, list(5)), true)
	}
}

// P19.1: feet without a place clash with none.
func TestClashNone(t *testing.T) {
	for _, empty := range []api.Foot{{}, f([]api.Place{}, nil), f(nil, []api.Place{}), f(list(1)[:0], list(2)[:0])} {
		for _, a := range []api.Foot{{}, f(list(1), nil), f(nil, list(1)), f(list(2, 1), list(1, 2)), f(nil, []api.Place{{}}), f([]api.Place{{}}, []api.Place{{}}), f(all(), all())} {
			holdClash(t, empty, a, false)
		}
	}
}

// P19.1: of places whose parts are -1, 0, 1, the least and the greatest number, just the same ones clash.
func TestClashParts(t *testing.T) {
	for i, x := range all() {
		for j, y := range all() {
			a, b := []api.Place{x}, []api.Place{y}
			holdClash(t, f(nil, a), f(b, nil), i == j)
			holdClash(t, f(nil, a), f(nil, b), i == j)
			holdClash(t, f(a, nil), f(b, nil), false)
		}
	}
	up := all()
	for i, x := range up {
		rest := together(up[:i], up[i+1:])
		one := []api.Place{x}
		for _, others := range [][]api.Place{rest, falling(rest)} {
			holdClash(t, f(nil, one), f(others, others), false)
			holdClash(t, f(one, one), f(others, others), false)
		}
		for _, l := range [][]api.Place{up, falling(up)} {
			holdClash(t, f(nil, one), f(l, nil), true)
			holdClash(t, f(one, nil), f(nil, l), true)
			holdClash(t, f(nil, one), f(nil, l), true)
		}
	}
}

// with is the list, and more places behind its first i ones.
func with(l []api.Place, i int, more ...api.Place) []api.Place {
	return together(l[:i], more, l[i:])
}

// P19.1: the place that clashes stands first, last, or in the midst of long lists, that rise, fall or stand anyhow, once or several times.
func TestClashLong(t *testing.T) {
	c := chance(24)
	odd := func(from int) []api.Place {
		var l []api.Place
		for n := range 60 {
			l = append(l, at(from+2*n))
		}
		return l
	}
	mine, theirs := odd(0), odd(1)
	for _, i := range []int{0, 1, 29, 30, 59, 60} {
		for _, j := range []int{0, 1, 30, 58, 59} {
			for often := 1; often < 4; often++ {
				x := theirs[j]
				l := with(mine, i, slices.Repeat([]api.Place{x}, often)...)
				for _, a := range [][]api.Place{l, falling(l), shuffled(&c, l), once(l)} {
					for _, b := range [][]api.Place{theirs, falling(theirs), shuffled(&c, theirs), with(theirs, 60-i, x)} {
						holdClash(t, f(nil, a), f(b, nil), true)
						holdClash(t, f(nil, a), f(nil, b), true)
						holdClash(t, f(row(200, 240), a), f(b, row(300, 340)), true)
						holdClash(t, f(row(200, 240), a), f(row(300, 340), b), true)
						holdClash(t, f(a, nil), f(b, nil), false)
						holdClash(t, f(a, row(200, 240)), f(b, row(300, 340)), false)
					}
				}
			}
		}
	}
	for _, a := range [][]api.Place{mine, falling(mine), shuffled(&c, mine), with(mine, 60, mine...)} {
		for _, b := range [][]api.Place{theirs, falling(theirs), shuffled(&c, theirs), with(theirs, 60, theirs...)} {
			holdClash(t, f(nil, a), f(b, nil), false)
			holdClash(t, f(a, a), f(b, b), false)
		}
	}
}

// P19.2: with one place more in any of the four lists no clash goes.
func TestClashMore(t *testing.T) {
	c := chance(25)
	clashes := 0
	for range 6000 {
		a, b := footByChance(&c), footByChance(&c)
		if !foot.Clash(a, b) {
			continue
		}
		clashes++
		for range 4 {
			x := placeByChance(&c)
			i, j := c.next(len(a.Reads)+1), c.next(len(a.Writes)+1)
			holdClash(t, f(with(a.Reads, i, x), a.Writes), b, true)
			holdClash(t, f(a.Reads, with(a.Writes, j, x)), b, true)
			i, j = c.next(len(b.Reads)+1), c.next(len(b.Writes)+1)
			holdClash(t, a, f(with(b.Reads, i, x), b.Writes), true)
			holdClash(t, a, f(b.Reads, with(b.Writes, j, x)), true)
		}
	}
	if clashes < 1000 {
		t.Fatalf("%d clashes", clashes)
	}
}

// P19.2: a foot that is joined of two clashes with just what one of both clashes with.
func TestClashJoined(t *testing.T) {
	c := chance(26)
	seen := map[bool]int{}
	for range 10000 {
		a, b, other := footByChance(&c), footByChance(&c), footByChance(&c)
		want := clashWants(a, other) || clashWants(b, other)
		seen[want]++
		holdClash(t, foot.Join(a, b), other, want)
		holdClash(t, foot.Of(together(a.Reads, b.Reads), together(b.Writes, a.Writes)), other, want)
	}
	if seen[true] < 1000 || seen[false] < 1000 {
		t.Fatalf("clashes and none: %v", seen)
	}
}

// P19.1: feet are the same whatever their places' order is, and how often they stand there.
func TestSame(t *testing.T) {
	for _, none := range [][]api.Place{nil, {}, list(1)[:0]} {
		holdSame(t, f(none, none), api.Foot{}, true)
		holdSame(t, f(none, list(1)), f(nil, list(1, 1)), true)
		holdSame(t, f(list(1), none), f(list(1, 1), nil), true)
	}
	holdSame(t, f(list(1, 2), list(3, 4)), f(list(2, 1), list(4, 3)), true)
	holdSame(t, f(list(1, 2), list(3, 4)), f(list(1, 2), list(4, 3)), true)
	holdSame(t, f(list(1, 2), list(3, 4)), f(list(1, 2, 1), list(3, 3, 4)), true)
	holdSame(t, f(list(1, 1, 2), nil), f(list(1, 2, 2), nil), true)
	holdSame(t, f(nil, list(2, 1, 2)), f(nil, list(1, 2, 1)), true)
	c := chance(27)
	up := all()
	for range 50 {
		a := f(shuffled(&c, up), shuffled(&c, together(up, up)))
		holdSame(t, a, f(up, up), true)
		holdSame(t, a, foot.Of(a.Reads, a.Writes), true)
		holdSame(t, a, a, true)
	}
}

// P19.1: feet of which one lacks a place, has one more, or another one, or reads what the other writes, are not the same.
func TestSameNot(t *testing.T) {
	a := f(list(1, 2), list(3, 4))
	for _, b := range []api.Foot{
		{}, f(list(1, 2), nil), f(nil, list(3, 4)), f(list(3, 4), list(1, 2)),
		f(list(1), list(3, 4)), f(list(2), list(3, 4)), f(list(1, 2), list(3)), f(list(1, 2), list(4)),
		f(list(1, 1), list(3, 4)), f(list(2, 2), list(3, 4)), f(list(1, 2), list(3, 3)), f(list(1, 2), list(4, 4)),
		f(list(0, 1, 2), list(3, 4)), f(list(1, 2, 9), list(3, 4)), f(list(1, 2), list(3, 4, 5)), f(list(1, 2), list(0, 3, 4)),
		f(list(1, 2, 3), list(3, 4)), f(list(1, 2), list(2, 3, 4)), f(list(1, 2, 3, 4), list(1, 2, 3, 4)), f(list(1, 3), list(2, 4)),
		f(list(1, 5), list(3, 4)), f(list(0, 2), list(3, 4)), f(list(1, 2), list(3, 5)), f(list(1, 2), list(0, 4)),
	} {
		holdSame(t, a, b, false)
		holdSame(t, a, f(falling(b.Reads), falling(b.Writes)), false)
		holdSame(t, f(list(2, 1, 2), list(4, 3, 4)), b, false)
	}
	for _, l := range [][]api.Place{list(1), list(2, 1), all(), {{}}} {
		holdSame(t, f(l, nil), f(nil, l), false)
		holdSame(t, f(l, nil), api.Foot{}, false)
		holdSame(t, f(nil, l), api.Foot{}, false)
		holdSame(t, f(l, l), f(l, nil), false)
		holdSame(t, f(l, l), f(nil, l), false)
	}
}

// P19.1: of places whose parts are -1, 0, 1, the least and the greatest number, just the same ones are the same, though they differ in one part alone.
func TestSameParts(t *testing.T) {
	up := all()
	for i, x := range up {
		for j, y := range up {
			a, b := []api.Place{x}, []api.Place{y}
			holdSame(t, f(a, nil), f(b, nil), i == j)
			holdSame(t, f(nil, a), f(nil, b), i == j)
			holdSame(t, f(a, b), f(b, a), i == j)
			other := slices.Clone(up)
			other[j] = x
			holdSame(t, f(up, up), f(other, up), i == j)
			holdSame(t, f(up, up), f(falling(up), other), i == j)
		}
	}
}

// P19.1: a place that differs in one part alone is another one to each of the four calls.
func TestOnePart(t *testing.T) {
	for i, low := range parts {
		for _, high := range parts[i+1:] {
			for _, p := range parts {
				for _, q := range parts {
					for _, pair := range [][]api.Place{
						{{Kind: low, I: p, J: q}, {Kind: high, I: p, J: q}},
						{{Kind: p, I: low, J: q}, {Kind: p, I: high, J: q}},
						{{Kind: p, I: q, J: low}, {Kind: p, I: q, J: high}},
					} {
						a, b := pair[:1], pair[1:]
						holdEach(t, falling(pair), pair)
						holdJoin(t, f(a, b), f(b, a), f(pair, pair))
						holdClash(t, f(a, a), f(b, b), false)
						holdSame(t, f(a, nil), f(b, nil), false)
						holdSame(t, f(nil, a), f(nil, b), false)
					}
				}
			}
		}
	}
}

func placeByChance(c *chance) api.Place {
	if c.next(8) == 0 {
		return api.Place{Kind: parts[c.next(5)], I: parts[c.next(5)], J: parts[c.next(5)]}
	}
	return at(c.next(16))
}

func listByChance(c *chance) []api.Place {
	var l []api.Place
	for range c.next(7) {
		l = append(l, placeByChance(c))
	}
	if c.next(2) == 0 {
		return once(l)
	}
	return l
}

func footByChance(c *chance) api.Foot {
	a := f(listByChance(c), listByChance(c))
	switch c.next(5) {
	case 0:
		a.Reads = nil
	case 1:
		a.Writes = nil
	}
	return a
}

// likeByChance is most often the same foot, in another order, or the foot with one place more, less or another one.
func likeByChance(c *chance, a api.Foot) api.Foot {
	b := f(shuffled(c, together(a.Reads, a.Reads)), shuffled(c, a.Writes))
	l := &b.Reads
	if c.next(2) == 0 {
		l = &b.Writes
	}
	switch c.next(6) {
	case 0:
		*l = append(*l, placeByChance(c))
	case 1:
		*l = (*l)[:len(*l)/2]
	case 2:
		b.Reads, b.Writes = b.Writes, b.Reads
	}
	return b
}

// P19.1, P19.2: feet by chance, held against what the page's words say.
func TestChance(t *testing.T) {
	c := chance(28)
	clash, same := map[bool]int{}, map[bool]int{}
	for range 50000 {
		a, b := footByChance(&c), footByChance(&c)
		like := likeByChance(&c, a)
		holdOf(t, a.Reads, a.Writes, f(once(a.Reads), once(a.Writes)))
		holdJoin(t, a, b, f(once(a.Reads, b.Reads), once(a.Writes, b.Writes)))
		holdJoin(t, a, like, f(once(a.Reads, like.Reads), once(a.Writes, like.Writes)))
		clash[clashWants(a, b)]++
		holdClash(t, a, b, clashWants(a, b))
		holdClash(t, foot.Of(a.Reads, a.Writes), foot.Of(b.Reads, b.Writes), clashWants(a, b))
		holdClash(t, a, like, clashWants(a, like))
		same[sameWants(a, like)]++
		holdSame(t, a, b, sameWants(a, b))
		holdSame(t, a, like, sameWants(a, like))
	}
	if clash[true] < 5000 || clash[false] < 5000 || same[true] < 5000 || same[false] < 5000 {
		t.Fatalf("clashes: %v, the same: %v", clash, same)
	}
}

// P1: feet of very many places, whatever their order: the calls end soon.
func TestGreat(t *testing.T) {
	const many = 1 << 15
	up, apart := make([]api.Place, many), make([]api.Place, many)
	for i := range many {
		up[i], apart[i] = api.Place{Kind: i % 9, I: i}, api.Place{Kind: i % 9, I: i, J: 1}
	}
	rising := once(up)
	for _, l := range [][]api.Place{up, rising, falling(rising), together(up, up)} {
		a, b := f(l, l), f(falling(apart), apart)
		if got := foot.Of(l, l); !equal(got, f(rising, rising)) {
			t.Fatal("Of of very many")
		}
		if got := foot.Join(a, a); !equal(got, f(rising, rising)) {
			t.Fatal("Join of very many")
		}
		if foot.Clash(a, b) || foot.Clash(b, a) || !foot.Clash(a, f(nil, up[many-1:])) || !foot.Clash(f(up[:1], nil), a) || !foot.Clash(a, a) {
			t.Fatal("Clash of very many")
		}
		if !foot.Same(a, f(up, rising)) || foot.Same(a, b) || foot.Same(a, f(l, rising[1:])) || foot.Same(f(rising[:many-1], l), a) {
			t.Fatal("Same of very many")
		}
	}
	same := slices.Repeat(list(3), 1<<20)
	holdOf(t, same, same, f(list(3), list(3)))
	if !foot.Clash(f(nil, same), f(same, nil)) || foot.Clash(f(nil, same), f(list(2, 4), list(4, 2))) || !foot.Same(f(same, nil), f(list(3), nil)) {
		t.Fatal("one place very often")
	}
}

// roomy is the list, with room behind it, where a place stands that is none of its.
func roomy(l []api.Place) []api.Place {
	return append(slices.Clone(l), beyond, beyond, beyond)[:len(l)]
}

// holdStays fails if the list isn't as it was, behind its end, too.
func holdStays(t *testing.T, l []api.Place, want []api.Place) {
	t.Helper()
	if !slices.Equal(l, want) {
		t.Fatalf("of %v was made %v", want, l)
	}
	for i, x := range l[len(l) : len(l)+3] {
		if x != beyond {
			t.Fatalf("%d behind %v stands %v", i, l, x)
		}
	}
}

// P2: lists that came in are as they were, behind their ends, too.
func TestListsStay(t *testing.T) {
	c := chance(29)
	for range 4000 {
		a, b := footByChance(&c), footByChance(&c)
		x, y := f(roomy(a.Reads), roomy(a.Writes)), f(roomy(b.Reads), roomy(b.Writes))
		foot.Of(x.Reads, x.Writes)
		foot.Of(x.Reads, x.Reads)
		foot.Join(x, y)
		foot.Join(x, x)
		foot.Clash(x, y)
		foot.Clash(y, x)
		foot.Clash(x, x)
		foot.Same(x, y)
		foot.Same(x, x)
		holdStays(t, x.Reads, a.Reads)
		holdStays(t, x.Writes, a.Writes)
		holdStays(t, y.Reads, b.Reads)
		holdStays(t, y.Writes, b.Writes)
	}
}

// spoil writes other places all over the list, and behind its end.
func spoil(l []api.Place) {
	l = l[:cap(l)]
	for i := range l {
		l[i] = beyond
	}
}

// P2: an answer's two lists share no memory, neither with each other, nor with what came in, nor with other answers.
func TestAnswers(t *testing.T) {
	c := chance(30)
	for range 4000 {
		a, b := footByChance(&c), footByChance(&c)
		if c.next(2) == 0 { // what rises already, and what is both
			a = f(once(a.Reads), once(a.Reads))
			b = api.Foot{}
		}
		x, y := copied(a), copied(b)
		of, join := foot.Of(a.Reads, a.Writes), foot.Join(a, b)
		wantOf, wantJoin := copied(of), copied(join)
		for _, l := range [][]api.Place{a.Reads, a.Writes, b.Reads, b.Writes} {
			spoil(l)
		}
		if !equal(of, wantOf) || !equal(join, wantJoin) {
			t.Fatalf("answers of %v and %v share memory with what came in", x, y)
		}
		again, other := foot.Of(x.Reads, x.Writes), foot.Join(x, y)
		spoil(of.Reads)
		spoil(join.Writes)
		if !slices.Equal(of.Writes, wantOf.Writes) || !slices.Equal(join.Reads, wantJoin.Reads) {
			t.Fatalf("two lists of an answer of %v and %v share memory", x, y)
		}
		spoil(of.Writes)
		spoil(join.Reads)
		if !equal(again, wantOf) || !equal(other, wantJoin) {
			t.Fatalf("two answers of %v and %v share memory", x, y)
		}
		if !equal(foot.Of(x.Reads, x.Writes), wantOf) || !equal(foot.Join(x, y), wantJoin) {
			t.Fatalf("a later answer of %v and %v is another one", x, y)
		}
	}
}

// P2: one list that is handed in as both comes back as two.
func TestOneList(t *testing.T) {
	l := list(1, 2, 3)
	for _, got := range []api.Foot{foot.Of(l, l), foot.Join(f(l, l), api.Foot{}), foot.Join(f(l, nil), f(nil, l)), foot.Join(f(l, l), f(l, l))} {
		spoil(got.Reads)
		if !slices.Equal(got.Writes, list(1, 2, 3)) || !slices.Equal(l, list(1, 2, 3)) {
			t.Fatalf("reads, writes and what came in share memory: %v, %v", got, l)
		}
		spoil(got.Writes)
		if !slices.Equal(l, list(1, 2, 3)) {
			t.Fatalf("writes and what came in share memory: %v", l)
		}
	}
}

// P3: calls tell the same whatever runs beside them; feet may be asked by many.
func TestBeside(t *testing.T) {
	c := chance(31)
	a, b := f(shuffled(&c, all()), falling(row(0, 50))), f(falling(row(100, 150)), shuffled(&c, row(0, 9)))
	wantOf, wantJoin := f(once(a.Reads), once(a.Writes)), f(once(a.Reads, b.Reads), once(a.Writes, b.Writes))
	var wait sync.WaitGroup
	for i := range 16 {
		wait.Go(func() {
			own := chance(i)
			for range 200 {
				x, y := footByChance(&own), footByChance(&own)
				if !equal(foot.Of(a.Reads, a.Writes), wantOf) || !equal(foot.Join(a, b), wantJoin) || !foot.Clash(a, b) || foot.Same(a, b) {
					t.Errorf("beside others: feet that others ask, too")
					return
				}
				if !equal(foot.Join(x, y), f(once(x.Reads, y.Reads), once(x.Writes, y.Writes))) || foot.Clash(x, y) != clashWants(x, y) || foot.Same(x, y) != sameWants(x, y) {
					t.Errorf("beside others: %v, %v", x, y)
					return
				}
			}
		})
	}
	wait.Wait()
}
