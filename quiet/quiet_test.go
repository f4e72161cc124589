package quiet_test

import (
	"math"
	"slices"
	"testing"

	"warrener/api"
	"warrener/quiet"
)

const (
	least = math.MinInt64
	most  = math.MaxInt64
)

// counts are ordinary ones, those that are small ones when they are cut to fewer bits, and those about both ends.
var counts = []int64{
	0, 1, 2, 3, 4, 5, 6, 7, 8, 255, 256, 257, 1<<16 + 1, 1<<31 - 1, 1 << 31, 1 << 32, 1<<32 + 1, 1 << 53, 1<<53 + 1, 1 << 62,
	-1, -2, -3, -255, -256, -1 << 31, -1 << 32, -1<<32 + 1, -1 << 62,
	least, least + 1, least + 2, most, most - 1, most - 2,
}

// nowhere are places that no short list has: what is one of its places when it is cut to fewer bits, and both ends.
var nowhere = []int{
	-1, -2, -3, -4, -5, -255, -256, -1 << 31, -1 << 32, -1<<32 + 1, -1 << 62,
	200, 255, 256, 257, 1 << 16, 1<<16 + 1, 1 << 31, 1 << 32, 1<<32 + 1, 1<<32 + 2, 1 << 62, 1<<62 + 1,
	least, least + 1, least + 2, most - 1, most,
}

// passedWants is what the page says: i is me, or the snapshot has no i, or the count there is another one.
func passedWants(i int, me int, count int64, snap []int64) bool {
	if i == me {
		return true
	}
	for place, was := range snap {
		if place == i {
			return count != was
		}
	}
	return true
}

// overWants is what the page says: each of the counts, by its place, has passed.
func overWants(me int, now []int64, snap []int64) bool {
	waits := 0
	for i, count := range now {
		if !passedWants(i, me, count, snap) {
			waits++
		}
	}
	return waits == 0
}

// splitWants is what the page says: the first old, and the others, in order.
func splitWants(bag []api.Bagged, old int) ([]api.Bagged, []api.Bagged) {
	var first, others []api.Bagged
	for place, b := range bag {
		if place < old {
			first = append(first, b)
		} else {
			others = append(others, b)
		}
	}
	return first, others
}

// chance is a row of numbers without a short beat.
type chance uint64

func (c *chance) next(below int) int {
	*c = *c*6364136223846793005 + 1442695040888963407
	return int(uint64(*c) >> 33 % uint64(below))
}

// any is a number of all 64 bits.
func (c *chance) any() int64 {
	return int64(c.next(1<<31))<<62 ^ int64(c.next(1<<31))<<31 ^ int64(c.next(1<<31))
}

// some is a list of that many counts out of the first few.
func (c *chance) some(length int, choice int) []int64 {
	l := make([]int64, length)
	for i := range l {
		l[i] = counts[c.next(choice)]
	}
	return l
}

// retired are that many entries, each with three parts of its own.
func retired(count int) []api.Bagged {
	var l []api.Bagged
	for i := range count {
		l = append(l, api.Bagged{Cell: 100 + i, Gen: 200 + i, N: int64(300 + i)})
	}
	return l
}

// holdPassed fails if Passed does not answer that.
func holdPassed(t *testing.T, i int, me int, count int64, snap []int64, want bool) {
	t.Helper()
	if got := quiet.Passed(i, me, count, snap); got != want {
		t.Fatalf("Passed(%d, %d, %d, %v) = %v", i, me, count, snap, got)
	}
}

// holdOver fails if Over does not answer that.
func holdOver(t *testing.T, me int, now []int64, snap []int64, want bool) {
	t.Helper()
	if got := quiet.Over(me, now, snap); got != want {
		t.Fatalf("Over(%d, %v, %v) = %v", me, now, snap, got)
	}
}

// hold fails if Split does not answer these two parts.
func hold(t *testing.T, bag []api.Bagged, old int, first []api.Bagged, others []api.Bagged) {
	t.Helper()
	gotFirst, gotOthers := quiet.Split(bag, old)
	if !slices.Equal(gotFirst, first) || !slices.Equal(gotOthers, others) {
		t.Fatalf("Split(%v, %d) = %v, %v, want %v, %v", bag, old, gotFirst, gotOthers, first, others)
	}
}

// holdWords fails if Split does not answer what the page says, or if both parts are not together just the bag.
func holdWords(t *testing.T, bag []api.Bagged, old int) {
	t.Helper()
	first, others := splitWants(bag, old)
	hold(t, bag, old, first, others)
	gotFirst, gotOthers := quiet.Split(bag, old)
	if !slices.Equal(slices.Concat(gotFirst, gotOthers), bag) {
		t.Fatalf("Split(%v, %d) = %v, %v: not just the bag", bag, old, gotFirst, gotOthers)
	}
}

// The chapter's example: me 0, snapshot 1, 1: over with 1, 2.
func TestExample(t *testing.T) {
	snap := []int64{1, 1}
	holdPassed(t, 0, 0, 1, snap, true)
	holdPassed(t, 1, 0, 2, snap, true)
	holdOver(t, 0, []int64{1, 2}, snap, true)
	holdOver(t, 0, []int64{1, 1}, snap, false)
	holdOver(t, 1, []int64{1, 2}, snap, false)
}

// P23.1: Passed, written out.
func TestPassedOneByOne(t *testing.T) {
	snap := []int64{5, 0, -3, 7}
	for _, x := range []struct {
		i, me int
		count int64
		want  bool
	}{
		{0, 1, 5, false}, {0, 1, 4, true}, {0, 1, 6, true}, {0, 1, -5, true}, {0, 1, 0, true}, {0, 0, 5, true},
		{1, 0, 0, false}, {1, 0, 1, true}, {1, 0, -1, true}, {1, 0, 5, true}, {1, 1, 0, true},
		{2, 0, -3, false}, {2, 0, -2, true}, {2, 0, -4, true}, {2, 0, 3, true}, {2, 2, -3, true},
		{3, 0, 7, false}, {3, 0, 8, true}, {3, 0, 6, true}, {3, 0, -7, true}, {3, 3, 7, true},
		{4, 0, 7, true}, {4, 4, 7, true}, {-1, 0, 5, true}, {-1, -1, 5, true}, {5, 0, 0, true},
		{0, -1, 5, false}, {0, 4, 5, false}, {3, 4, 7, false}, {3, -1, 7, false}, {0, 3, 7, true}, {3, 0, 5, true},
	} {
		holdPassed(t, x.i, x.me, x.count, snap, x.want)
	}
}

// P23.1: me has passed, whatever the count, and whether the snapshot has such a place or not.
func TestPassedMe(t *testing.T) {
	for _, snap := range [][]int64{nil, {}, {0}, {3, 3}, {1, 2, 3, 4}, counts} {
		for _, me := range append(slices.Clone(nowhere), 0, 1, 2, 3, 4, len(snap)-1, len(snap), len(snap)+1) {
			for _, count := range append(slices.Clone(counts), snap...) {
				holdPassed(t, me, me, count, snap, true)
			}
		}
	}
}

// P23.1: what has no place in the snapshot has passed, whatever the count, and whoever I am.
func TestPassedNowhere(t *testing.T) {
	room := []int64{9, 9, 9, 9, 9, 9, 9, 9}
	for length := range 7 {
		snap := room[1 : 1+length]
		for _, i := range append(slices.Clone(nowhere), -1, length, length+1) {
			for _, me := range []int{0, -1, length - 1, length, length + 1, least, most} {
				holdPassed(t, i, me, 9, snap, true)
				holdPassed(t, i, me, 8, snap, true)
			}
		}
	}
}

// P23.1: of a snapshot without an element each has passed.
func TestPassedNoSnapshot(t *testing.T) {
	for _, snap := range [][]int64{nil, {}, []int64{0, 1, 2}[:0], []int64{0, 1, 2}[3:]} {
		for _, i := range append(slices.Clone(nowhere), 0, 1, 2, 3) {
			for _, me := range []int{0, 1, -1, least, most} {
				for _, count := range []int64{0, 1, 2, -1, least, most} {
					holdPassed(t, i, me, count, snap, true)
				}
			}
		}
	}
}

// P23.1: what has a place passes by each count but the one there, and by that place alone: first, last and in the midst.
func TestPassedPlaces(t *testing.T) {
	for length := 1; length <= 6; length++ {
		for i := range length {
			for _, was := range counts {
				snap := slices.Repeat([]int64{was ^ 5}, length)
				snap[i] = was
				for _, me := range []int{-1, length, least, most, (i + 1) % (length + 1)} {
					holdPassed(t, i, me, was, snap, false)
					for _, by := range []int64{1, -1, 2, 5, 1 << 8, 1 << 16, 1 << 31, 1 << 32, 1 << 53, 1 << 62, least} {
						holdPassed(t, i, me, was+by, snap, true)
						holdPassed(t, i, me, was-by, snap, true)
					}
					holdPassed(t, i, me, was^5, snap, true)
				}
			}
		}
	}
}

// P23.1: each count against each, on either side: its opposite, and both ends, too.
func TestPassedCounts(t *testing.T) {
	for _, was := range counts {
		for _, count := range append(slices.Clone(counts), was, -was, ^was, was+1, was-1) {
			for _, i := range []int{0, 1, 2} {
				snap := []int64{was + 3, was + 3, was + 3}
				snap[i] = was
				holdPassed(t, i, 3, count, snap, count != was)
				holdPassed(t, i, i, count, snap, true)
			}
		}
	}
	holdPassed(t, 0, 1, least, []int64{least}, false)
	holdPassed(t, 0, 1, most, []int64{most}, false)
	holdPassed(t, 0, 1, least, []int64{most}, true)
	holdPassed(t, 0, 1, most, []int64{least}, true)
	holdPassed(t, 0, 1, 0, []int64{least}, true)
	holdPassed(t, 0, 1, least, []int64{0}, true)
}

// P23.1: a count that is less than there passed just as one that is more.
func TestPassedLess(t *testing.T) {
	snap := []int64{4, 4, 4}
	for count := int64(-5); count <= 9; count++ {
		for i := range snap {
			holdPassed(t, i, 7, count, snap, count != 4)
		}
	}
}

// P23.1: that I have no place in the snapshot changes nothing of the others.
func TestPassedStranger(t *testing.T) {
	snap := []int64{5, 6, 7}
	for _, me := range append(slices.Clone(nowhere), -1, 3, 4) {
		for i, was := range snap {
			holdPassed(t, i, me, was, snap, false)
			holdPassed(t, i, me, was+1, snap, true)
			holdPassed(t, i, me, was-1, snap, true)
		}
	}
}

// P23.1: it is over of no counts, whatever the snapshot, and whoever I am.
func TestOverNone(t *testing.T) {
	for _, now := range [][]int64{nil, {}, []int64{1, 2, 3}[:0]} {
		for _, snap := range [][]int64{nil, {}, {0}, {1, 2, 3}, {0, 0, 0, 0}} {
			for _, me := range append(slices.Clone(nowhere), 0, 1, 2, 3, 4) {
				holdOver(t, me, now, snap, true)
			}
		}
	}
}

// P23.1: of up to six counts each is the same or is another one, in whichever places, of whichever me: over just if none but me's is the same.
func TestOverPlaces(t *testing.T) {
	for length := range 7 {
		snap := []int64{3, 3, 0, -2, most, least}[:length]
		for pattern := range 1 << length {
			now := slices.Clone(snap)
			for i := range now {
				if pattern>>i&1 == 1 {
					now[i]++
				}
			}
			for me := -2; me <= length+1; me++ {
				same := (1<<length - 1) &^ pattern
				if me >= 0 {
					same &^= 1 << me
				}
				holdOver(t, me, now, snap, same == 0)
			}
		}
	}
}

// P23.1: Over, written out: all are other ones; one is the same, first, last and in the midst; it is me's; me's is, and another one beside it.
func TestOverOneByOne(t *testing.T) {
	snap := []int64{1, 2, 3, 4}
	for _, x := range []struct {
		me   int
		now  []int64
		want bool
	}{
		{0, []int64{2, 3, 4, 5}, true}, {0, []int64{0, 1, 2, 3}, true}, {9, []int64{4, 3, 2, 1}, true}, {-1, []int64{-1, -2, -3, -4}, true},
		{1, []int64{1, 3, 4, 5}, false}, {0, []int64{2, 2, 4, 5}, false}, {0, []int64{2, 3, 3, 5}, false}, {0, []int64{2, 3, 4, 4}, false},
		{0, []int64{1, 3, 4, 5}, true}, {1, []int64{2, 2, 4, 5}, true}, {2, []int64{2, 3, 3, 5}, true}, {3, []int64{2, 3, 4, 4}, true},
		{0, []int64{1, 2, 4, 5}, false}, {1, []int64{1, 2, 4, 5}, false}, {1, []int64{2, 2, 3, 5}, false}, {3, []int64{2, 3, 3, 4}, false}, {0, []int64{1, 3, 4, 4}, false},
		{0, []int64{1, 2, 3, 4}, false}, {3, []int64{1, 2, 3, 4}, false}, {-1, []int64{1, 2, 3, 4}, false}, {4, []int64{1, 2, 3, 4}, false},
	} {
		holdOver(t, x.me, x.now, snap, x.want)
	}
	holdOver(t, 0, []int64{7}, []int64{7}, true)
	holdOver(t, 1, []int64{7}, []int64{7}, false)
	holdOver(t, 1, []int64{8}, []int64{7}, true)
}

// P23.1: counts beyond the snapshot have passed; of a snapshot beyond the counts nothing is asked.
func TestOverLengths(t *testing.T) {
	for had := range 6 {
		for asked := range 9 {
			snap, now := slices.Repeat([]int64{6}, had), slices.Repeat([]int64{6}, asked)
			both := min(had, asked)
			for _, me := range append(slices.Clone(nowhere), -1, both, both+1) {
				holdOver(t, me, now, snap, both == 0)
			}
			for me := range both {
				holdOver(t, me, now, snap, both == 1)
			}
			for i := range both {
				now[i] = 7
			}
			for _, me := range []int{-1, 0, 1, both, most, least} {
				holdOver(t, me, now, snap, true)
			}
			if both > 0 {
				now[both-1] = 6
				holdOver(t, both-1, now, snap, true)
				holdOver(t, both, now, snap, false)
				holdOver(t, -1, now, snap, false)
			}
		}
	}
}

// P23.1: where I am below 0, or beyond all, each of the others must have passed.
func TestOverStranger(t *testing.T) {
	snap := []int64{1, 2, 3}
	for _, me := range append(slices.Clone(nowhere), -1, 3, 4) {
		holdOver(t, me, []int64{2, 3, 4}, snap, true)
		holdOver(t, me, []int64{1, 3, 4}, snap, false)
		holdOver(t, me, []int64{2, 2, 4}, snap, false)
		holdOver(t, me, []int64{2, 3, 3}, snap, false)
		holdOver(t, me, []int64{2, 3, 4, 1}, snap, true)
		holdOver(t, me, []int64{2}, snap, true)
	}
}

// P23.1: each count goes by its own place: what another place has does not matter.
func TestOverByPlace(t *testing.T) {
	holdOver(t, 9, []int64{2, 1}, []int64{1, 2}, true)
	holdOver(t, 9, []int64{2, 3, 1}, []int64{1, 2, 3}, true)
	holdOver(t, 9, []int64{3, 2, 1}, []int64{1, 2, 3}, false)
	holdOver(t, 1, []int64{3, 2, 1}, []int64{1, 2, 3}, true)
	holdOver(t, 2, []int64{3, 2, 1}, []int64{1, 2, 3}, false)
}

// P23.1: many by chance: Passed and Over answer what the page says, and Over tells just what Passed tells of each place.
func TestOverChance(t *testing.T) {
	c := chance(23)
	over, waits := 0, 0
	for range 50000 {
		choice := 1 + c.next(len(counts))
		snap, now := c.some(c.next(7), choice), c.some(c.next(7), choice)
		me := c.next(9) - 1
		if c.next(8) == 0 {
			me = nowhere[c.next(len(nowhere))]
		}
		each := true
		for i, count := range now {
			holdPassed(t, i, me, count, snap, passedWants(i, me, count, snap))
			each = each && quiet.Passed(i, me, count, snap)
		}
		want := overWants(me, now, snap)
		holdOver(t, me, now, snap, want)
		if each != want {
			t.Fatalf("Over(%d, %v, %v): Passed tells %v of the places", me, now, snap, each)
		}
		if want {
			over++
		} else {
			waits++
		}
	}
	if over < 5000 || waits < 5000 {
		t.Errorf("%d are over, %d are not: that shows less", over, waits)
	}
}

// P23.1: many by chance of Passed, with numbers of all bits, and places that are none.
func TestPassedChance(t *testing.T) {
	c := chance(1)
	for range 50000 {
		snap := make([]int64, c.next(6))
		for i := range snap {
			snap[i] = c.any()
		}
		i, me, count := c.next(8)-1, c.next(8)-1, c.any()
		if c.next(4) == 0 {
			i = int(c.any())
		}
		if i >= 0 && i < len(snap) && c.next(2) == 0 {
			count = snap[i]
		}
		holdPassed(t, i, me, count, snap, passedWants(i, me, count, snap))
	}
}

// P23.1: long lists of counts are asked to their ends, and soon.
func TestOverLong(t *testing.T) {
	const long = 1 << 18
	snap, now := make([]int64, long), make([]int64, long)
	for i := range snap {
		snap[i], now[i] = int64(i), int64(i+1)
	}
	check := func(me int, count int, want bool) {
		t.Helper()
		if got := quiet.Over(me, now[:count], snap); got != want {
			t.Errorf("Over(%d, %d counts, %d) = %v", me, count, long, got)
		}
	}
	check(0, long, true)
	for _, i := range []int{0, 1, 255, 256, 1 << 16, long / 2, long - 2, long - 1} {
		now[i] = snap[i]
		check(-1, long, false)
		check(i, long, true)
		check(long, long, false)
		check(-1, i, true)
		check(-1, i+1, false)
		now[i]++
	}
}

// P23.1: of no bag both parts are empty, whatever was old.
func TestSplitNone(t *testing.T) {
	for _, bag := range [][]api.Bagged{nil, {}, retired(3)[:0], retired(3)[3:]} {
		for _, old := range append(slices.Clone(nowhere), 0, 1, 2, 3) {
			if first, others := quiet.Split(bag, old); len(first) != 0 || len(others) != 0 {
				t.Errorf("Split(%v, %d) = %v, %v", bag, old, first, others)
			}
		}
	}
}

// P23.1: Split, written out: the first old, none where that is below 0, all where it is above.
func TestSplitOneByOne(t *testing.T) {
	a, b, c := api.Bagged{Cell: 1, Gen: 4, N: 7}, api.Bagged{Cell: 2, Gen: 5, N: 8}, api.Bagged{Cell: 3, Gen: 6, N: 9}
	bag := []api.Bagged{a, b, c}
	for _, old := range []int{least, least + 1, -1 << 32, -3, -2, -1, 0} {
		hold(t, bag, old, nil, []api.Bagged{a, b, c})
	}
	hold(t, bag, 1, []api.Bagged{a}, []api.Bagged{b, c})
	hold(t, bag, 2, []api.Bagged{a, b}, []api.Bagged{c})
	for _, old := range []int{3, 4, 5, 6, 1 << 32, 1<<32 + 1, most - 1, most} {
		hold(t, bag, old, []api.Bagged{a, b, c}, nil)
	}
}

// P23.1: bags of all short lengths, with old from below 0 to beyond all.
func TestSplitLengths(t *testing.T) {
	for length := range 12 {
		bag := retired(length)
		for old := -3; old <= length+3; old++ {
			cut := max(0, min(old, length))
			hold(t, bag, old, bag[:cut], bag[cut:])
			holdWords(t, bag, old)
		}
		for _, old := range nowhere {
			holdWords(t, bag, old)
			if old < 0 {
				hold(t, bag, old, nil, bag)
			} else {
				hold(t, bag, old, bag, nil)
			}
		}
	}
}

// P23.1: an entry that the bag has several times goes and stays by its places alone.
func TestSplitOften(t *testing.T) {
	x, y, z := api.Bagged{Cell: 2, Gen: 1, N: 5}, api.Bagged{Cell: 2, Gen: 2, N: 5}, api.Bagged{Cell: 1, Gen: 1, N: 6}
	bag := []api.Bagged{x, z, x, y, x, z, {}, {}}
	hold(t, bag, 0, nil, []api.Bagged{x, z, x, y, x, z, {}, {}})
	hold(t, bag, 1, []api.Bagged{x}, []api.Bagged{z, x, y, x, z, {}, {}})
	hold(t, bag, 3, []api.Bagged{x, z, x}, []api.Bagged{y, x, z, {}, {}})
	hold(t, bag, 5, []api.Bagged{x, z, x, y, x}, []api.Bagged{z, {}, {}})
	hold(t, bag, 7, []api.Bagged{x, z, x, y, x, z, {}}, []api.Bagged{{}})
	hold(t, bag, 8, []api.Bagged{x, z, x, y, x, z, {}, {}}, nil)
	for length := range 6 {
		same := slices.Repeat([]api.Bagged{x}, length)
		for old := -1; old <= length+1; old++ {
			holdWords(t, same, old)
		}
	}
}

// P23.1: what an entry's parts are does not matter, and all three come out as they came in.
func TestSplitParts(t *testing.T) {
	values := []int{least, -1 << 32, -1, 0, 1, 2, 257, 1<<32 + 1, most}
	var bag []api.Bagged
	for _, cell := range values {
		for _, gen := range values {
			for _, n := range values {
				bag = append(bag, api.Bagged{Cell: cell, Gen: gen, N: int64(n)})
			}
		}
	}
	for old := -1; old <= len(bag)+1; old++ {
		holdWords(t, bag, old)
	}
	for _, b := range bag {
		one := []api.Bagged{b}
		hold(t, one, 0, nil, one)
		hold(t, one, 1, one, nil)
		first, others := quiet.Split([]api.Bagged{b, {}, b}, 2)
		if len(first) != 2 || len(others) != 1 || first[0].Cell != b.Cell || first[0].Gen != b.Gen || first[0].N != b.N || others[0] != b {
			t.Fatalf("Split of %v and others = %v, %v", b, first, others)
		}
	}
}

// P23.1: many bags by chance are parted as the page says.
func TestSplitChance(t *testing.T) {
	c := chance(2)
	for range 20000 {
		bag := byChance(&c, 10)
		holdWords(t, bag, c.next(14)-2)
		holdWords(t, bag, nowhere[c.next(len(nowhere))])
		holdWords(t, bag, int(c.any()))
	}
}

// byChance is a bag of up to that many entries, some of which are the same.
func byChance(c *chance, longest int) []api.Bagged {
	var bag []api.Bagged
	choice := 1 + c.next(4)
	for range c.next(longest + 1) {
		bag = append(bag, api.Bagged{Cell: c.next(choice), Gen: c.next(choice), N: counts[c.next(choice)]})
	}
	return bag
}

// P23.1: long bags are parted as short ones, and soon.
func TestSplitLong(t *testing.T) {
	const long = 1 << 18
	bag := retired(long)
	for _, old := range []int{least, -1, 0, 1, 2, 255, 256, 257, 1 << 16, long / 2, long - 1, long, long + 1, most} {
		first, others := quiet.Split(bag, old)
		cut := max(0, min(old, long))
		if !slices.Equal(first, bag[:cut]) || !slices.Equal(others, bag[cut:]) {
			t.Errorf("with %d old a long bag is parted otherwise: %d, %d", old, len(first), len(others))
		}
	}
}

// P2: what is handed in stays as it is, ahead of its front and behind its end, too.
func TestListsStay(t *testing.T) {
	c := chance(3)
	for range 500 {
		room, now, snap := retired(12), c.some(12, 4), c.some(12, 4)
		wasNow, wasSnap := slices.Clone(now), slices.Clone(snap)
		from, end := c.next(4), 4+c.next(6)
		quiet.Split(room[from:end], c.next(12)-1)
		quiet.Over(c.next(8)-1, now[from:end], snap[c.next(4):end])
		quiet.Passed(c.next(8)-1, c.next(8)-1, int64(c.next(4)), snap[from:end])
		if !slices.Equal(room, retired(12)) || !slices.Equal(now, wasNow) || !slices.Equal(snap, wasSnap) {
			t.Fatalf("a list that came in was turned: %v, %v, %v", room, now, snap)
		}
	}
}

// P2: what becomes of an answer, to its room's end, changes neither the bag, nor the other part, nor another answer; nor does what becomes of the bag change an answer.
func TestAnswersApart(t *testing.T) {
	for old := -1; old <= 8; old++ {
		room := retired(9)
		bag := room[1:8]
		wantFirst, wantOthers := splitWants(retired(9)[1:8], old)
		first, others := quiet.Split(bag, old)
		spoil(first)
		if !slices.Equal(others, wantOthers) || !slices.Equal(room, retired(9)) {
			t.Fatalf("with %d old the first part shares memory", old)
		}
		first, others = quiet.Split(bag, old)
		spoil(others)
		if !slices.Equal(first, wantFirst) || !slices.Equal(room, retired(9)) {
			t.Fatalf("with %d old the other part shares memory", old)
		}
		first, others = quiet.Split(bag, old)
		otherFirst, otherOthers := quiet.Split(bag, old)
		spoil(otherFirst)
		spoil(otherOthers)
		spoil(room)
		if !slices.Equal(first, wantFirst) || !slices.Equal(others, wantOthers) {
			t.Fatalf("with %d old an answer shares memory with the bag, or with another answer", old)
		}
	}
}

// spoil writes over a list and all the room behind it.
func spoil(l []api.Bagged) {
	l = l[:cap(l)]
	for i := range l {
		l[i] = api.Bagged{Cell: -55, Gen: -56, N: -57}
	}
}

// P2: an append to one part is seen neither in the other one, nor in the bag, nor behind its end.
func TestAppendsApart(t *testing.T) {
	more := api.Bagged{Cell: -1, Gen: -2, N: -3}
	for length := range 8 {
		for old := -1; old <= length+1; old++ {
			room := retired(10)
			bag := room[:length]
			wantFirst, wantOthers := splitWants(retired(length), old)
			first, others := quiet.Split(bag, old)
			longer := append(first, more, more)
			farther := append(others, more, more, more)
			if !slices.Equal(first, wantFirst) || !slices.Equal(others, wantOthers) || !slices.Equal(room, retired(10)) {
				t.Fatalf("Split of %d, %d old: an append to a part is seen elsewhere", length, old)
			}
			if !slices.Equal(longer[:len(first)], wantFirst) || !slices.Equal(farther[:len(others)], wantOthers) {
				t.Fatalf("Split of %d, %d old: the parts, longer, differ from the parts", length, old)
			}
		}
	}
}

// P3: the same is answered to the same, whatever was asked ahead, and by however many goroutines, of one bag and one snapshot, too.
func TestBeside(t *testing.T) {
	bag, snap := retired(7), []int64{1, 2, 3, 4}
	done := make(chan bool)
	for i := range 8 {
		go func() { done <- goesAlone(i, bag, snap) }()
	}
	for range 8 {
		if !<-done {
			t.Error("an answer was another one beside others")
		}
	}
}

// goesAlone tells whether the calls answer as they do by themselves, asked again and again.
func goesAlone(seed int, bag []api.Bagged, snap []int64) bool {
	c := chance(seed)
	for range 300 {
		old := c.next(10) - 1
		wantFirst, wantOthers := splitWants(bag, old)
		first, others := quiet.Split(bag, old)
		if !slices.Equal(first, wantFirst) || !slices.Equal(others, wantOthers) {
			return false
		}
		spoil(first)
		spoil(others)
		i, me, now := c.next(5), c.next(5), c.some(4, 5)
		if quiet.Passed(i, me, now[0], snap) != passedWants(i, me, now[0], snap) || quiet.Over(me, now, snap) != overWants(me, now, snap) {
			return false
		}
	}
	return true
}
