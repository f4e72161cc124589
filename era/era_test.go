package era_test

import (
	"math"
	"math/big"
	"slices"
	"testing"

	"warrener/api"
	"warrener/era"
)

const (
	least = math.MinInt64
	most  = math.MaxInt64

	// half is half of all numbers: twice as much goes round to 0.
	half = math.MinInt64
)

// epochs are ordinary ones, those about which twice an epoch just goes round, those that are small ones when they are cut to fewer bits, and those about both ends.
var epochs = []int64{
	0, 1, 2, 3, 4, 5, 6, 7, 8, 100, 255, 256, 257, 1 << 16, 1<<31 - 1, 1 << 31, 1<<31 + 1, 1 << 32, 1<<32 + 1, 1<<32 + 5, 1 << 53, 1<<53 + 1,
	-1, -2, -3, -4, -5, -100, -256, -1 << 31, -1<<31 - 1, -1 << 32, -1<<32 + 3, -1<<53 - 1,
	1<<61 - 1, 1 << 61, 1<<62 - 2, 1<<62 - 1, 1 << 62, 1<<62 + 1, 1<<62 + 2,
	-1 << 61, -1<<62 + 1, -1 << 62, -1<<62 - 1, -1<<62 - 2,
	least, least + 1, least + 2, least + 3, least + 4, least + 5,
	most, most - 1, most - 2, most - 3, most - 4, most - 5,
}

// ends are the epochs at which N, and 2, may go round, or just does not, and ordinary ones.
var ends = []int64{0, 1, 2, 3, 4, 5, -1, -2, -3, -4, least, least + 1, least + 2, least + 3, most - 3, most - 2, most - 1, most}

// marks are written out: what twice an epoch, and 1, is, gone round.
var marks = []struct{ epoch, mark int64 }{
	{0, 1}, {1, 3}, {2, 5}, {3, 7}, {5, 11}, {100, 201}, {-1, -1}, {-2, -3}, {-3, -5}, {1 << 32, 1<<33 + 1},
	{1<<62 - 2, most - 2}, {1<<62 - 1, most}, {1 << 62, least + 1}, {1<<62 + 1, least + 3},
	{-1<<62 + 1, least + 3}, {-1 << 62, least + 1}, {-1<<62 - 1, most}, {-1<<62 - 2, most - 2},
	{least, 1}, {least + 1, 3}, {least + 2, 5}, {least + 3, 7}, {most, -1}, {most - 1, -3}, {most - 2, -5}, {most - 3, -7},
}

// markWants is what the page says: twice the epoch and 1, without bounds, and then gone round.
func markWants(e int64) int64 {
	n := new(big.Int).Add(new(big.Int).Mul(big.NewInt(2), big.NewInt(e)), big.NewInt(1))
	all := new(big.Int).Lsh(big.NewInt(1), 64)
	n.Mod(n, all)
	if n.Bit(63) == 1 {
		n.Sub(n, all)
	}
	return n.Int64()
}

// goesWants is what the page says: N, and 2, is not above the epoch, as numbers without bounds.
func goesWants(n int64, e int64) bool {
	return new(big.Int).Add(big.NewInt(n), big.NewInt(2)).Cmp(big.NewInt(e)) <= 0
}

// splitWants is what the page says: those that may go, and the others, in order.
func splitWants(bag []api.Bagged, e int64) ([]api.Bagged, []api.Bagged) {
	var free, kept []api.Bagged
	for _, b := range bag {
		if goesWants(b.N, e) {
			free = append(free, b)
		} else {
			kept = append(kept, b)
		}
	}
	return free, kept
}

// chance is a row of numbers without a short beat.
type chance uint64

func (c *chance) next(below int) int {
	*c = *c*6364136223846793005 + 1442695040888963407
	return int(uint64(*c) >> 33 % uint64(below))
}

// any is a number of all 64 bits.
func (c *chance) any() int64 {
	return int64(c.next(1<<31))<<62 ^ int64(c.next(1<<31))<<31 ^ int64(c.next(1<<31))
}

// retired are entries that were retired in those epochs, each of a cell and a life of its own.
func retired(epochs ...int64) []api.Bagged {
	var l []api.Bagged
	for i, n := range epochs {
		l = append(l, api.Bagged{Cell: 100 + i, Gen: 200 + i, N: n})
	}
	return l
}

// at are those of the bag that stand at these places.
func at(bag []api.Bagged, places ...int) []api.Bagged {
	var l []api.Bagged
	for _, i := range places {
		l = append(l, bag[i])
	}
	return l
}

// hold fails if Split does not answer these two parts.
func hold(t *testing.T, bag []api.Bagged, e int64, free []api.Bagged, kept []api.Bagged) {
	t.Helper()
	gotFree, gotKept := era.Split(bag, e)
	if !slices.Equal(gotFree, free) || !slices.Equal(gotKept, kept) {
		t.Fatalf("Split(%v, %d) = %v, %v, want %v, %v", bag, e, gotFree, gotKept, free, kept)
	}
}

// holdWords fails if Split does not answer what the page says, or if both parts are not together the bag.
func holdWords(t *testing.T, bag []api.Bagged, e int64) {
	t.Helper()
	free, kept := splitWants(bag, e)
	hold(t, bag, e, free, kept)
	holdTogether(t, bag, e)
}

// holdTogether fails if both parts don't have each entry just as often as the bag has it, or if one of them is not in the bag's order.
func holdTogether(t *testing.T, bag []api.Bagged, e int64) {
	t.Helper()
	free, kept := era.Split(bag, e)
	often := map[api.Bagged]int{}
	for _, b := range bag {
		often[b]++
	}
	for _, b := range slices.Concat(free, kept) {
		often[b]--
	}
	for b, n := range often {
		if n != 0 {
			t.Fatalf("Split(%v, %d) = %v, %v: %v is there %d times too few", bag, e, free, kept, b, n)
		}
	}
	if !stands(free, bag) || !stands(kept, bag) {
		t.Fatalf("Split(%v, %d) = %v, %v: not in order", bag, e, free, kept)
	}
}

// stands tells whether all of the part stand in the bag, one behind the other.
func stands(part []api.Bagged, bag []api.Bagged) bool {
	next := 0
	for _, b := range bag {
		if next < len(part) && part[next] == b {
			next++
		}
	}
	return next == len(part)
}

// The chapter's example: retired in 3: it goes in 5.
func TestExample(t *testing.T) {
	bag := []api.Bagged{{Cell: 1, Gen: 1, N: 3}}
	hold(t, bag, 3, nil, bag)
	hold(t, bag, 4, nil, bag)
	hold(t, bag, 5, bag, nil)
	hold(t, bag, 6, bag, nil)
}

// P22.1: Mark is twice an epoch and 1, gone round: written out.
func TestMark(t *testing.T) {
	for _, m := range marks {
		if got := era.Mark(m.epoch); got != m.mark {
			t.Errorf("Mark(%d) = %d, want %d", m.epoch, got, m.mark)
		}
	}
}

// P22.1: Mark of all kinds of epochs, and of many by chance, is what the page says, and no epoch's mark is 0, the mark of none.
func TestMarkWords(t *testing.T) {
	c := chance(22)
	for _, e := range append(manyEpochs(&c, 20000), epochs...) {
		got := era.Mark(e)
		if want := markWants(e); got != want {
			t.Fatalf("Mark(%d) = %d, want %d", e, got, want)
		}
		if got == 0 || got&1 == 0 {
			t.Fatalf("Mark(%d) = %d, which may be none", e, got)
		}
	}
}

// manyEpochs are that many by chance, of all bits.
func manyEpochs(c *chance, count int) []int64 {
	l := make([]int64, count)
	for i := range l {
		l[i] = c.any()
	}
	return l
}

// P22.1: a thread that is not within agrees with every epoch.
func TestAgreesOutside(t *testing.T) {
	c := chance(1)
	for _, e := range append(manyEpochs(&c, 20000), epochs...) {
		if !era.Agrees(0, e) {
			t.Errorf("Agrees(0, %d) = false", e)
		}
	}
}

// P22.1: an epoch's mark agrees with it, and with the one that is half of all numbers away, whose mark is the same; neither with a neighbour, nor with a neighbour's.
func TestAgreesWithin(t *testing.T) {
	c := chance(2)
	for _, e := range append(manyEpochs(&c, 20000), epochs...) {
		mark := markWants(e)
		for _, same := range []int64{e, e + half} {
			if !era.Agrees(mark, same) || era.Mark(same) != mark {
				t.Errorf("the mark %d of %d does not agree with %d", mark, e, same)
			}
			for _, by := range []int64{1, -1, 2, -2, 3, 1 << 31, 1 << 32, 1 << 62} {
				if era.Agrees(mark, same+by) {
					t.Errorf("Agrees(%d, %d) = true, the mark being of %d", mark, same+by, e)
				}
			}
		}
	}
}

// P22.1: what is not just the epoch's mark, nor 0, does not agree: not what differs by one, nor the epoch, nor twice it, nor what is the mark in fewer bits.
func TestAgreesOther(t *testing.T) {
	for _, e := range epochs {
		mark := markWants(e)
		for _, other := range []int64{mark + 1, mark - 1, mark + 2, mark - 2, -mark, ^mark, mark + 1<<32, mark + 1<<62, mark ^ half, e, e + 1, 2 * e, 1, -1, 2, 3, least, most} {
			if got, want := era.Agrees(other, e), other == 0 || other == mark; got != want {
				t.Errorf("Agrees(%d, %d) = %v, want %v", other, e, got, want)
			}
		}
	}
}

// P22.1: Agrees, written out.
func TestAgreesOneByOne(t *testing.T) {
	for _, x := range []struct {
		mark, epoch int64
		want        bool
	}{
		{0, 0, true}, {1, 0, true}, {2, 0, false}, {-1, 0, false}, {3, 0, false},
		{0, 1, true}, {3, 1, true}, {1, 1, false}, {2, 1, false}, {4, 1, false}, {5, 1, false},
		{-1, -1, true}, {-1, most, true}, {-2, -1, false}, {1, least, true}, {1, most, false}, {-1, least, false},
		{most, 1<<62 - 1, true}, {most, -1<<62 - 1, true}, {least, 1 << 62, false}, {least + 1, 1 << 62, true}, {least + 1, -1 << 62, true},
	} {
		if got := era.Agrees(x.mark, x.epoch); got != x.want {
			t.Errorf("Agrees(%d, %d) = %v", x.mark, x.epoch, got)
		}
	}
}

// P22.1: many marks and epochs by chance agree just as the page says.
func TestAgreesChance(t *testing.T) {
	c := chance(3)
	agreed, differed := 0, 0
	for range 50000 {
		e, mark := epochs[c.next(len(epochs))], epochs[c.next(len(epochs))]
		if c.next(2) == 0 {
			mark = markWants(mark)
		}
		got := era.Agrees(mark, e)
		if want := mark == 0 || mark == markWants(e); got != want {
			t.Fatalf("Agrees(%d, %d) = %v, want %v", mark, e, got, want)
		}
		if got {
			agreed++
		} else {
			differed++
		}
	}
	if agreed == 0 || differed == 0 {
		t.Errorf("%d agreed, %d did not: that shows less", agreed, differed)
	}
}

// P22.1: of no bag both parts are empty, in whichever epoch.
func TestSplitNone(t *testing.T) {
	for _, e := range epochs {
		for _, bag := range [][]api.Bagged{nil, {}, retired(least, 0, most)[:0]} {
			if free, kept := era.Split(bag, e); len(free) != 0 || len(kept) != 0 {
				t.Errorf("Split(%v, %d) = %v, %v", bag, e, free, kept)
			}
		}
	}
}

// P22.1: each of up to six may go or may not, in whichever places of the bag.
func TestSplitPlaces(t *testing.T) {
	for count := range 7 {
		for pattern := range 1 << count {
			var numbers []int64
			var free, kept []int
			for i := range count {
				if pattern>>i&1 == 1 {
					numbers = append(numbers, int64(9-i))
					free = append(free, i)
				} else {
					numbers = append(numbers, int64(10+i))
					kept = append(kept, i)
				}
			}
			bag := retired(numbers...)
			hold(t, bag, 11, at(bag, free...), at(bag, kept...))
			holdTogether(t, bag, 11)
		}
	}
}

// P22.1: what was retired two epochs ago, or earlier, goes; one epoch ago, in that epoch, or later, it does not: written out.
func TestSplitNear(t *testing.T) {
	bag := retired(0, 1, 2, 3, 4, 5, 6, 7, 8)
	for _, x := range []struct {
		epoch int64
		free  int
	}{{-2, 0}, {-1, 0}, {0, 0}, {1, 0}, {2, 1}, {3, 2}, {4, 3}, {5, 4}, {9, 8}, {10, 9}, {11, 9}, {most, 9}, {least, 0}} {
		hold(t, bag, x.epoch, bag[:x.free], bag[x.free:])
	}
	down := slices.Clone(bag)
	slices.Reverse(down)
	hold(t, down, 5, down[5:], down[:5])
	below := retired(-4, -3, -2, -1, 0)
	hold(t, below, -1, below[:2], below[2:])
	hold(t, below, 0, below[:3], below[3:])
	hold(t, below, 1, below[:4], below[4:])
}

// P22.1: a number by 1, 2 and 3 below the epoch, the same, and above it, where that is a number.
func TestSplitAround(t *testing.T) {
	for _, e := range slices.Concat(ends, epochs) {
		for by := int64(-5); by <= 5; by++ {
			if (by < 0 && e < least-by) || (by > 0 && e > most-by) {
				continue
			}
			bag := retired(e + by)
			if by <= -2 {
				hold(t, bag, e, bag, nil)
			} else {
				hold(t, bag, e, nil, bag)
			}
		}
	}
}

// P22.1: N, and 2, goes round nowhere, nor does an epoch: about the least and the greatest number, written out.
func TestSplitEnds(t *testing.T) {
	low := retired(least, least+1, least+2, least+3)
	for _, x := range []struct {
		epoch int64
		free  int
	}{{least, 0}, {least + 1, 0}, {least + 2, 1}, {least + 3, 2}, {least + 4, 3}, {least + 5, 4}, {-1, 4}, {0, 4}, {1, 4}, {most - 1, 4}, {most, 4}} {
		hold(t, low, x.epoch, low[:x.free], low[x.free:])
	}
	high := retired(most-5, most-4, most-3, most-2, most-1, most)
	for _, x := range []struct {
		epoch int64
		free  int
	}{{most, 4}, {most - 1, 3}, {most - 2, 2}, {most - 3, 1}, {most - 4, 0}, {1, 0}, {0, 0}, {-1, 0}, {least + 1, 0}, {least, 0}} {
		hold(t, high, x.epoch, high[:x.free], high[x.free:])
	}
}

// P22.1: each number with each epoch, alone and all in one bag, as the page says.
func TestSplitEach(t *testing.T) {
	numbers := slices.Concat(ends, epochs)
	bag := retired(numbers...)
	for _, e := range numbers {
		holdWords(t, bag, e)
		for i, n := range numbers {
			if goesWants(n, e) {
				hold(t, bag[i:i+1], e, bag[i:i+1], nil)
			} else {
				hold(t, bag[i:i+1], e, nil, bag[i:i+1])
			}
		}
	}
}

// P22.1: of a cell that the bag has several times, with the same and with other lives and numbers, each goes by its own number.
func TestSplitOften(t *testing.T) {
	bag := []api.Bagged{
		{Cell: 2, Gen: 1, N: 5}, {Cell: 1, Gen: 1, N: 6}, {Cell: 2, Gen: 1, N: 5}, {Cell: 2, Gen: 2, N: 5},
		{Cell: 2, Gen: 1, N: 6}, {Cell: 1, Gen: 1, N: 4}, {Cell: 2, Gen: 2, N: 7}, {Cell: 2},
	}
	hold(t, bag, 1, nil, bag)
	hold(t, bag, 5, at(bag, 7), at(bag, 0, 1, 2, 3, 4, 5, 6))
	hold(t, bag, 6, at(bag, 5, 7), at(bag, 0, 1, 2, 3, 4, 6))
	hold(t, bag, 7, at(bag, 0, 2, 3, 5, 7), at(bag, 1, 4, 6))
	hold(t, bag, 8, at(bag, 0, 1, 2, 3, 4, 5, 7), at(bag, 6))
	hold(t, bag, 9, bag, nil)
	same := []api.Bagged{{Cell: 4, Gen: 3, N: 2}, {Cell: 4, Gen: 3, N: 2}, {Cell: 4, Gen: 3, N: 2}}
	hold(t, same, 4, same, nil)
	hold(t, same, 3, nil, same)
}

// P22.1: what counts is N alone, neither the cell nor its life; each part comes out as it came in, whatever the others are.
func TestSplitParts(t *testing.T) {
	values := []int{least, least + 1, -1, 0, 1, 2, 1<<32 + 1, most - 2, most}
	var bag []api.Bagged
	for _, cell := range values {
		for _, gen := range values {
			for _, n := range values {
				bag = append(bag, api.Bagged{Cell: cell, Gen: gen, N: int64(n)})
			}
		}
	}
	for _, e := range ends {
		holdWords(t, bag, e)
	}
	for n := range int64(10) {
		one := []api.Bagged{{Cell: 3, Gen: 4, N: n}}
		if n <= 5 {
			hold(t, one, 7, one, nil)
		} else {
			hold(t, one, 7, nil, one)
		}
	}
}

// P22.1: numbers and epochs that are the same when they are cut to fewer bits are told apart.
func TestSplitBits(t *testing.T) {
	for _, by := range []int64{1 << 8, 1 << 16, 1 << 31, 1 << 32, 1 << 53, 1 << 62} {
		bag := retired(1, 1+by, 1-by, 3, 3+by, 3-by)
		hold(t, bag, 3, at(bag, 0, 2, 5), at(bag, 1, 3, 4))
		hold(t, bag, 3+by, at(bag, 0, 1, 2, 3, 5), at(bag, 4))
		hold(t, bag, 3-by, at(bag, 2), at(bag, 0, 1, 3, 4, 5))
		hold(t, retired(by-1, by-2), by, retired(by-1, by-2)[1:], retired(by-1, by-2)[:1])
	}
}

// P22.2: with a later epoch each that went goes still, and in its order.
func TestLaterEpoch(t *testing.T) {
	later := slices.Sorted(slices.Values(slices.Concat(ends, epochs)))
	c := chance(4)
	for range 200 {
		bag := byChance(&c, 20)
		var before []api.Bagged
		for _, e := range later {
			free, _ := era.Split(bag, e)
			if !stands(before, free) {
				t.Fatalf("Split(%v, %d): of those that went earlier, %v, some stay", bag, e, before)
			}
			before = free
		}
	}
}

// P22.2: each number goes from one epoch on, and stays in each epoch ahead of that.
func TestLaterOfOne(t *testing.T) {
	later := slices.Compact(slices.Sorted(slices.Values(slices.Concat(ends, epochs))))
	for _, n := range later {
		went := false
		for _, e := range later {
			free, _ := era.Split(retired(n), e)
			if went && len(free) == 0 {
				t.Errorf("what was retired in %d went, and does not in %d", n, e)
			}
			went = len(free) == 1
		}
		if went != (n <= most-2) {
			t.Errorf("what was retired in %d, in the last epoch of all: %v", n, went)
		}
	}
}

// byChance is a bag of up to that many entries, some of which are the same.
func byChance(c *chance, longest int) []api.Bagged {
	var bag []api.Bagged
	choice := 1 + c.next(len(epochs))
	for range c.next(longest + 1) {
		n := epochs[c.next(choice)]
		switch c.next(4) {
		case 0:
			n = ends[c.next(len(ends))]
		case 1:
			n = c.any()
		}
		bag = append(bag, api.Bagged{Cell: c.next(4), Gen: c.next(3), N: n})
	}
	return bag
}

// P22.1: many bags by chance are parted as the page says, in any epoch, and in those about what was retired.
func TestSplitChance(t *testing.T) {
	c := chance(5)
	for range 20000 {
		bag := byChance(&c, 8)
		holdWords(t, bag, c.any())
		holdWords(t, bag, epochs[c.next(len(epochs))])
		if len(bag) > 0 {
			// Wherever this goes round, it is an epoch, too.
			holdWords(t, bag, bag[c.next(len(bag))].N+int64(c.next(7)-3))
		}
	}
}

// P22.1: long bags are parted as short ones, and soon.
func TestSplitLong(t *testing.T) {
	const long = 1 << 18
	c := chance(6)
	bag := make([]api.Bagged, long)
	for i := range bag {
		bag[i] = api.Bagged{Cell: c.next(9), Gen: i, N: int64(c.next(long))}
	}
	for _, e := range []int64{0, 2, long / 2, long - 1, long, long + 1, most, least} {
		var free, kept []api.Bagged
		for _, b := range bag {
			if b.N+2 <= e {
				free = append(free, b)
			} else {
				kept = append(kept, b)
			}
		}
		gotFree, gotKept := era.Split(bag, e)
		if !slices.Equal(gotFree, free) || !slices.Equal(gotKept, kept) {
			t.Errorf("in %d a long bag is parted otherwise", e)
		}
	}
}

// P2: the bag that came in stays as it is, behind its end, too.
func TestBagStays(t *testing.T) {
	c := chance(7)
	for range 500 {
		room := make([]api.Bagged, 12)
		for i := range room {
			room[i] = api.Bagged{Cell: c.next(5), Gen: i, N: int64(c.next(9))}
		}
		was := slices.Clone(room)
		from, end := c.next(4), 4+c.next(6)
		era.Split(room[from:end], int64(c.next(12)))
		if !slices.Equal(room, was) {
			t.Fatalf("a bag that came in was turned: %v, it was %v", room, was)
		}
	}
}

// P2: what becomes of an answer, to its room's end, changes neither the bag, nor the other part, nor another answer; nor does what becomes of the bag change an answer.
func TestAnswersApart(t *testing.T) {
	for e := int64(-1); e <= 8; e++ {
		fresh := func() []api.Bagged { return retired(3, 1, 2, 5, 4, 1, 3) }
		bag := fresh()
		wantFree, wantKept := splitWants(bag, e)
		free, kept := era.Split(bag, e)
		spoil(free)
		if !slices.Equal(kept, wantKept) || !slices.Equal(bag, fresh()) {
			t.Fatalf("in %d the part that goes shares memory", e)
		}
		free, kept = era.Split(bag, e)
		spoil(kept)
		if !slices.Equal(free, wantFree) || !slices.Equal(bag, fresh()) {
			t.Fatalf("in %d the part that stays shares memory", e)
		}
		free, kept = era.Split(bag, e)
		otherFree, otherKept := era.Split(bag, e)
		spoil(otherFree)
		spoil(otherKept)
		spoil(bag)
		if !slices.Equal(free, wantFree) || !slices.Equal(kept, wantKept) {
			t.Fatalf("in %d an answer shares memory with the bag, or with another answer", e)
		}
	}
}

// spoil writes over a list and all the room behind it.
func spoil(l []api.Bagged) {
	l = l[:cap(l)]
	for i := range l {
		l[i] = api.Bagged{Cell: -55, Gen: -56, N: -57}
	}
}

// P3: the same is answered to the same, whatever was asked ahead, and by however many goroutines, of one bag, too.
func TestBeside(t *testing.T) {
	shared := retired(3, 1, 2, 5, 4, 1, 3)
	done := make(chan bool)
	for i := range 8 {
		go func() { done <- goesAlone(i, shared) }()
	}
	for range 8 {
		if !<-done {
			t.Error("an answer was another one beside others")
		}
	}
}

// goesAlone tells whether the calls answer as they do by themselves, asked again and again.
func goesAlone(seed int, shared []api.Bagged) bool {
	c := chance(seed)
	for range 300 {
		e := int64(c.next(9))
		for _, bag := range [][]api.Bagged{shared, byChance(&c, 4)} {
			wantFree, wantKept := splitWants(bag, e)
			free, kept := era.Split(bag, e)
			if !slices.Equal(free, wantFree) || !slices.Equal(kept, wantKept) {
				return false
			}
		}
		if era.Mark(e) != 2*e+1 || !era.Agrees(2*e+1, e) || era.Agrees(2*e+3, e) {
			return false
		}
	}
	return true
}
