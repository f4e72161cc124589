package hazard_test

import (
	"math"
	"slices"
	"testing"

	"warrener/api"
	"warrener/hazard"
	"warrener/place"
)

const (
	least = math.MinInt
	most  = math.MaxInt

	// slotKind is the kind of a slot's place, as the page about places has it.
	slotKind = 5
)

// amounts are how many threads, or slots of each, may be asked for: what there may be, what is about both bounds, what is some of them when it is cut to fewer bits, and both ends.
var amounts = []int{
	0, 1, 2, 3, 4, 5, 6, 255, 256, 257, -1, -2, -3, -4, -5, -255, -256,
	1<<16 + 2, 1 << 31, -1 << 31, 1 << 32, 1<<32 + 1, 1<<32 + 2, -1<<32 + 1, -1<<32 + 3, 1 << 62, 1<<62 + 3,
	least, least + 1, least + 2, least + 3, most - 1, most,
}

// values are what each of an entry's parts may be.
var values = []int{least, -1, 0, 1, most}

// within is the nearest to n from 0 to hi.
func within(n int, hi int) int {
	return min(max(n, 0), hi)
}

// slotsWants are the places of all slots, gone through as the page says: by rising threads, of each by rising slots.
func slotsWants(threads int, slots int) []api.Place {
	var l []api.Place
	for thread := 0; thread < within(threads, 4); thread++ {
		for slot := 0; slot < within(slots, 2); slot++ {
			l = append(l, api.Place{Kind: slotKind, I: thread, J: slot})
		}
	}
	return l
}

// splitWants is what the page says: those whose cell's number was not seen, and the others, in order.
func splitWants(bag []api.Bagged, seen []int64) ([]api.Bagged, []api.Bagged) {
	var free, kept []api.Bagged
	for _, b := range bag {
		hidden := true
		for _, n := range seen {
			if n == int64(b.Cell) {
				hidden = false
			}
		}
		if hidden {
			free = append(free, b)
		} else {
			kept = append(kept, b)
		}
	}
	return free, kept
}

// chance is a row of numbers without a short beat.
type chance uint64

func (c *chance) next(below int) int {
	*c = *c*6364136223846793005 + 1442695040888963407
	return int(uint64(*c) >> 33 % uint64(below))
}

// cells are entries of those cells, each with a life and a number of its own.
func cells(numbers ...int) []api.Bagged {
	var l []api.Bagged
	for i, n := range numbers {
		l = append(l, api.Bagged{Cell: n, Gen: 100 + i, N: int64(200 + i)})
	}
	return l
}

// at are those of the bag that stand at these places.
func at(bag []api.Bagged, places ...int) []api.Bagged {
	var l []api.Bagged
	for _, i := range places {
		l = append(l, bag[i])
	}
	return l
}

// hold fails if Split does not answer these two parts.
func hold(t *testing.T, bag []api.Bagged, seen []int64, free []api.Bagged, kept []api.Bagged) {
	t.Helper()
	gotFree, gotKept := hazard.Split(bag, seen)
	if !slices.Equal(gotFree, free) || !slices.Equal(gotKept, kept) {
		t.Fatalf("Split(%v, %v) = %v, %v, want %v, %v", bag, seen, gotFree, gotKept, free, kept)
	}
}

// holdWords fails if Split does not answer what the page says, or if both parts are not together the bag.
func holdWords(t *testing.T, bag []api.Bagged, seen []int64) {
	t.Helper()
	free, kept := splitWants(bag, seen)
	hold(t, bag, seen, free, kept)
	holdTogether(t, bag, seen)
}

// holdTogether fails if both parts don't have each entry just as often as the bag has it, or if one of them is not in the bag's order.
func holdTogether(t *testing.T, bag []api.Bagged, seen []int64) {
	t.Helper()
	free, kept := hazard.Split(bag, seen)
	often := map[api.Bagged]int{}
	for _, b := range bag {
		often[b]++
	}
	for _, b := range slices.Concat(free, kept) {
		often[b]--
	}
	for b, n := range often {
		if n != 0 {
			t.Fatalf("Split(%v, %v) = %v, %v: %v is there %d times too few", bag, seen, free, kept, b, n)
		}
	}
	if !stands(free, bag) || !stands(kept, bag) {
		t.Fatalf("Split(%v, %v) = %v, %v: not in order", bag, seen, free, kept)
	}
}

// stands tells whether all of the part stand in the bag, one behind the other.
func stands(part []api.Bagged, bag []api.Bagged) bool {
	next := 0
	for _, b := range bag {
		if next < len(part) && part[next] == b {
			next++
		}
	}
	return next == len(part)
}

// The chapter's example: bag 1, 2, seen 2: 1 goes.
func TestExample(t *testing.T) {
	bag := []api.Bagged{{Cell: 1}, {Cell: 2}}
	hold(t, bag, []int64{2}, []api.Bagged{{Cell: 1}}, []api.Bagged{{Cell: 2}})
}

// P21.1: Count of as many threads and slots as there may be, and of one more, is what they make together.
func TestCount(t *testing.T) {
	wants := [6][4]int{{0, 0, 0, 0}, {0, 1, 2, 2}, {0, 2, 4, 4}, {0, 3, 6, 6}, {0, 4, 8, 8}, {0, 4, 8, 8}}
	for threads, row := range wants {
		for slots, want := range row {
			if got := hazard.Count(threads, slots); got != want {
				t.Errorf("Count(%d, %d) = %d, want %d", threads, slots, got, want)
			}
		}
	}
}

// P21.1: numbers below 0 count as 0, those above what there may be as that, each whatever the other one is.
func TestCountBounds(t *testing.T) {
	for _, threads := range amounts {
		for _, slots := range amounts {
			if got, want := hazard.Count(threads, slots), within(threads, 4)*within(slots, 2); got != want {
				t.Errorf("Count(%d, %d) = %d, want %d", threads, slots, got, want)
			}
		}
	}
	for _, below := range []int{-1, -2, -4, least, least + 1} {
		for _, n := range amounts {
			if hazard.Count(below, n) != 0 || hazard.Count(n, below) != 0 {
				t.Errorf("Count of %d and %d is not 0", below, n)
			}
		}
	}
	if hazard.Count(most, most) != api.MaxThreads*api.MaxSlots {
		t.Errorf("Count(%d, %d) = %d", most, most, hazard.Count(most, most))
	}
}

// P21.1: Slot of every i is the place of the i-th slot, by rising threads, of each by rising slots; of any other i there is none.
func TestSlot(t *testing.T) {
	for _, threads := range amounts {
		for _, slots := range amounts {
			l := slotsWants(threads, slots)
			for i := -1; i <= len(l)+1; i++ {
				if i >= 0 && i < len(l) {
					holdSlot(t, i, threads, slots, l[i])
				} else {
					holdNoSlot(t, i, threads, slots)
				}
			}
		}
	}
}

// P21.1: of numbers far below and above there is no slot, however many there are.
func TestSlotFar(t *testing.T) {
	for _, threads := range amounts {
		for _, slots := range amounts {
			for _, i := range []int{-2, -3, -8, -9, 9, 10, 16, 255, 256, 257, -256, 1 << 31, -1 << 31, 1 << 32, 1<<32 + 1, -1 << 32, -1<<32 + 3, 1 << 62, least, least + 1, least + 7, most - 7, most - 1, most} {
				holdNoSlot(t, i, threads, slots)
			}
		}
	}
}

// holdSlot fails if that is not the place of the i-th slot.
func holdSlot(t *testing.T, i int, threads int, slots int, want api.Place) {
	t.Helper()
	if x, ok := hazard.Slot(i, threads, slots); x != want || !ok {
		t.Errorf("Slot(%d, %d, %d) = %v, %v, want %v", i, threads, slots, x, ok, want)
	}
}

// holdNoSlot fails if there is an i-th slot.
func holdNoSlot(t *testing.T, i int, threads int, slots int) {
	t.Helper()
	if x, ok := hazard.Slot(i, threads, slots); x != (api.Place{}) || ok {
		t.Errorf("Slot(%d, %d, %d) = %v, %v, want none", i, threads, slots, x, ok)
	}
}

// P21.1: the slots by their numbers, written out.
func TestSlotOneByOne(t *testing.T) {
	for i, want := range [][2]int{{0, 0}, {0, 1}, {1, 0}, {1, 1}, {2, 0}, {2, 1}, {3, 0}, {3, 1}} {
		holdSlot(t, i, 4, 2, api.Place{Kind: api.PlSlot, I: want[0], J: want[1]})
		holdSlot(t, i, most, most, api.Place{Kind: api.PlSlot, I: want[0], J: want[1]})
	}
	for i := range 4 {
		holdSlot(t, i, 4, 1, api.Place{Kind: api.PlSlot, I: i})
	}
	holdSlot(t, 1, 1, 2, api.Place{Kind: api.PlSlot, J: 1})
	holdNoSlot(t, 1, 1, 1)
	holdNoSlot(t, 2, 1, 2)
	holdNoSlot(t, 0, 0, 2)
	holdNoSlot(t, 0, 4, 0)
}

// P21.1: Count tells of how many i, from 0 on, there is a slot.
func TestCountOfSlots(t *testing.T) {
	for _, threads := range amounts {
		for _, slots := range amounts {
			many := 0
			for i := -20; i <= 20; i++ {
				_, ok := hazard.Slot(i, threads, slots)
				if ok != (i >= 0 && i < hazard.Count(threads, slots)) {
					t.Errorf("Slot(%d, %d, %d): %v, of %d", i, threads, slots, ok, hazard.Count(threads, slots))
				}
				if ok {
					many++
				}
			}
			if many != hazard.Count(threads, slots) {
				t.Errorf("Count(%d, %d) = %d of %d", threads, slots, hazard.Count(threads, slots), many)
			}
		}
	}
}

// P21.1: the slots, gone through, are the places of slots that a program of as many threads and slots has, as the page about places has them.
func TestSlotsOfProgram(t *testing.T) {
	for _, threads := range amounts {
		for _, slots := range amounts {
			var want []api.Place
			for _, x := range place.All(api.Prog{Code: make([][]api.Instr, within(threads, 9)), Slots: slots}) {
				if x.Kind == api.PlSlot {
					want = append(want, x)
				}
			}
			var got []api.Place
			for i := range hazard.Count(threads, slots) {
				x, _ := hazard.Slot(i, threads, slots)
				got = append(got, x)
			}
			if !slices.Equal(got, want) {
				t.Errorf("%d threads, %d slots: %v, want %v", threads, slots, got, want)
			}
		}
	}
}

// P21.1: of no bag both parts are empty, whatever was seen; of a bag of which no number was seen all go.
func TestSplitNone(t *testing.T) {
	bags := [][]api.Bagged{nil, {}, cells(1, 2, 3)[:0]}
	seens := [][]int64{nil, {}, []int64{1, 2, 3}[:0]}
	for _, bag := range bags {
		for _, seen := range append(slices.Clone(seens), []int64{0}, []int64{1}, []int64{1, 2, 2}, []int64{math.MinInt64, math.MaxInt64}) {
			if free, kept := hazard.Split(bag, seen); len(free) != 0 || len(kept) != 0 {
				t.Errorf("Split(%v, %v) = %v, %v", bag, seen, free, kept)
			}
		}
	}
	for _, seen := range seens {
		for _, bag := range [][]api.Bagged{cells(1), cells(1, 2, 3), cells(3, 1, 3), cells(0), {{}, {}}, cells(least, -1, 0, 1, most)} {
			hold(t, bag, seen, bag, nil)
		}
	}
}

// P21.1: each of up to six cells is seen or is not, in whichever places of the bag.
func TestSplitSeen(t *testing.T) {
	for count := range 7 {
		bag := cells([]int{4, 1, 6, 2, 5, 3}[:count]...)
		for pattern := range 1 << count {
			var seen []int64
			var free, kept []int
			for i := range count {
				if pattern>>i&1 == 1 {
					seen = append(seen, int64(bag[i].Cell))
					kept = append(kept, i)
				} else {
					free = append(free, i)
				}
			}
			for range 2 {
				hold(t, bag, seen, at(bag, free...), at(bag, kept...))
				holdTogether(t, bag, seen)
				slices.Reverse(seen)
			}
		}
	}
}

// P21.1: of a cell that the bag has several times, with the same and with other lives and numbers, all stay or all go.
func TestSplitOften(t *testing.T) {
	bag := []api.Bagged{
		{Cell: 2, Gen: 1, N: 5}, {Cell: 1, Gen: 1, N: 5}, {Cell: 2, Gen: 1, N: 5}, {Cell: 2, Gen: 2, N: 5},
		{Cell: 3, Gen: 1, N: 5}, {Cell: 2, Gen: 1, N: 6}, {Cell: 1, Gen: 2, N: 7}, {Cell: 2},
	}
	hold(t, bag, []int64{2}, at(bag, 1, 4, 6), at(bag, 0, 2, 3, 5, 7))
	hold(t, bag, []int64{1}, at(bag, 0, 2, 3, 4, 5, 7), at(bag, 1, 6))
	hold(t, bag, []int64{3}, at(bag, 0, 1, 2, 3, 5, 6, 7), at(bag, 4))
	hold(t, bag, []int64{3, 1}, at(bag, 0, 2, 3, 5, 7), at(bag, 1, 4, 6))
	hold(t, bag, []int64{3, 2, 1}, nil, bag)
	same := []api.Bagged{{Cell: 4, Gen: 3, N: 2}, {Cell: 4, Gen: 3, N: 2}, {Cell: 4, Gen: 3, N: 2}}
	hold(t, same, []int64{4}, nil, same)
	hold(t, same, []int64{3, 2}, same, nil)
}

// P21.1: that a number was seen several times, and in whichever order, changes nothing; nor do numbers that are no cell's.
func TestSplitSeenOften(t *testing.T) {
	bag := cells(1, 2, 3, 2, 6)
	for _, seen := range [][]int64{{2, 2}, {2, 2, 2, 2, 2}, {0, 2}, {2, 0}, {9, 2, 7}, {7, 2, 9, 2}, {-1, -2, 2, -3}, {math.MinInt64, 2, math.MaxInt64}, {math.MaxInt64, 2, math.MinInt64, 2}, {5, 4, 2, 4, 5}} {
		hold(t, bag, seen, at(bag, 0, 2, 4), at(bag, 1, 3))
	}
	for _, seen := range [][]int64{{0}, {-1}, {4}, {7, 5}, {0, 0, 0}, {math.MinInt64}, {math.MaxInt64, math.MinInt64}, {-1, -2, -3, -6}, {100, 101, 102, 200, 201, 202}, {1 << 32, 1<<32 + 1, 1<<32 + 2}, {256 + 1, 1<<16 + 2, -1<<32 + 3}} {
		hold(t, bag, seen, bag, nil)
	}
}

// P21.1: what counts is the cell's number alone, neither its life nor the scheme's number; each part comes out as it came in, whatever the others are.
func TestSplitParts(t *testing.T) {
	var bag []api.Bagged
	for _, cell := range values {
		for _, gen := range values {
			for _, n := range values {
				bag = append(bag, api.Bagged{Cell: cell, Gen: gen, N: int64(n)})
			}
		}
	}
	for pattern := range 1 << len(values) {
		var seen []int64
		for i, n := range values {
			if pattern>>i&1 == 1 {
				seen = append(seen, int64(n))
			}
		}
		holdWords(t, bag, seen)
		for _, b := range bag {
			if slices.Contains(seen, int64(b.Cell)) {
				hold(t, []api.Bagged{b}, seen, nil, []api.Bagged{b})
			} else {
				hold(t, []api.Bagged{b}, seen, []api.Bagged{b}, nil)
			}
		}
	}
}

// P21.1: an entry whose life and number, but not its cell, was seen may go.
func TestSplitByCellAlone(t *testing.T) {
	b := api.Bagged{Cell: 3, Gen: 4, N: 5}
	one := []api.Bagged{b}
	for n := range int64(10) {
		if n == 3 {
			hold(t, one, []int64{n}, nil, one)
		} else {
			hold(t, one, []int64{n}, one, nil)
		}
	}
	hold(t, one, []int64{4, 5, 12, 60}, one, nil)
	hold(t, []api.Bagged{{}}, []int64{0}, nil, []api.Bagged{{}})
	hold(t, []api.Bagged{{}}, []int64{1}, []api.Bagged{{}}, nil)
}

// P21.1: cells and numbers that are the same when they are cut to fewer bits are told apart.
func TestSplitBits(t *testing.T) {
	numbers := []int{1, 257, 1<<16 + 1, 1<<32 + 1, 1<<48 + 1, 1<<62 + 1, least + 1, -1, -1<<32 + 1, most}
	bag := cells(numbers...)
	for i, n := range numbers {
		others := slices.Delete(slices.Clone(bag), i, i+1)
		hold(t, bag, []int64{int64(n)}, others, bag[i:i+1])
	}
}

// P21.1 and P21.2: many bags by chance are parted as the page says, and both parts are together the bag.
func TestSplitChance(t *testing.T) {
	c := chance(21)
	pool := []int{0, 1, 2, 3, 4, 5, 6, 7, -1, least, most, 1 << 32, 1<<32 + 1, 257}
	for range 20000 {
		choice := 1 + c.next(len(pool))
		var bag []api.Bagged
		for range c.next(9) {
			bag = append(bag, api.Bagged{Cell: pool[c.next(choice)], Gen: pool[c.next(choice)], N: int64(pool[c.next(choice)])})
		}
		var seen []int64
		for range c.next(9) {
			seen = append(seen, int64(pool[c.next(choice)]))
		}
		holdWords(t, bag, seen)
	}
}

// P21.1 and P21.2: long bags, and many numbers seen, are parted as short ones, and soon.
func TestSplitLong(t *testing.T) {
	const long = 1 << 18
	c := chance(1)
	bag := make([]api.Bagged, long)
	seen := make([]int64, long)
	for i := range bag {
		bag[i] = api.Bagged{Cell: c.next(2 * long), Gen: i, N: int64(c.next(9))}
		seen[i] = int64(c.next(2 * long))
	}
	var free, kept []api.Bagged
	was := map[int64]bool{}
	for _, n := range seen {
		was[n] = true
	}
	for _, b := range bag {
		if was[int64(b.Cell)] {
			kept = append(kept, b)
		} else {
			free = append(free, b)
		}
	}
	if len(free) == 0 || len(kept) == 0 {
		t.Fatal("a bag of which one part is empty shows less")
	}
	gotFree, gotKept := hazard.Split(bag, seen)
	if !slices.Equal(gotFree, free) || !slices.Equal(gotKept, kept) {
		t.Errorf("a long bag is parted otherwise")
	}
	gotFree, gotKept = hazard.Split(bag, nil)
	if !slices.Equal(gotFree, bag) || len(gotKept) != 0 {
		t.Errorf("a long bag of which none was seen does not go")
	}
	for i := range seen {
		seen[i] = int64(i)
	}
	gotFree, gotKept = hazard.Split(cells(long-1, 0, long, 1, -1), seen)
	if !slices.Equal(gotFree, at(cells(long-1, 0, long, 1, -1), 2, 4)) || len(gotKept) != 3 {
		t.Errorf("of many numbers seen: %v, %v", gotFree, gotKept)
	}
}

// P2: what is handed in stays as it is, behind its end, too.
func TestListsStay(t *testing.T) {
	c := chance(2)
	for range 500 {
		room := make([]api.Bagged, 12)
		for i := range room {
			room[i] = api.Bagged{Cell: c.next(5), Gen: i, N: int64(-i)}
		}
		numbers := make([]int64, 12)
		for i := range numbers {
			numbers[i] = int64(c.next(5))
		}
		wasRoom, wasNumbers := slices.Clone(room), slices.Clone(numbers)
		from, end := c.next(4), 4+c.next(6)
		hazard.Split(room[from:end], numbers[from:end])
		if !slices.Equal(room, wasRoom) || !slices.Equal(numbers, wasNumbers) {
			t.Fatalf("a list that came in was turned: %v, %v", room, numbers)
		}
	}
}

// P2: what becomes of an answer, to its room's end, changes neither what came in, nor the other part, nor another answer; nor does what becomes of the lists that came in change an answer.
func TestAnswersApart(t *testing.T) {
	for _, seen := range [][]int64{nil, {1}, {1, 2}, {1, 2, 3}, {2}, {3, 1}, {9}} {
		bag := cells(1, 2, 3, 2, 1, 3, 1)
		numbers := slices.Clone(seen)
		wantFree, wantKept := splitWants(bag, seen)
		free, kept := hazard.Split(bag, numbers)
		spoil(free)
		if !slices.Equal(kept, wantKept) || !slices.Equal(bag, cells(1, 2, 3, 2, 1, 3, 1)) {
			t.Fatalf("seen %v: the part that goes shares memory", seen)
		}
		free, kept = hazard.Split(bag, numbers)
		spoil(kept)
		if !slices.Equal(free, wantFree) || !slices.Equal(bag, cells(1, 2, 3, 2, 1, 3, 1)) {
			t.Fatalf("seen %v: the part that stays shares memory", seen)
		}
		free, kept = hazard.Split(bag, numbers)
		otherFree, otherKept := hazard.Split(bag, numbers)
		spoil(otherFree)
		spoil(otherKept)
		spoil(bag)
		for i := range numbers {
			numbers[i] = 77
		}
		if !slices.Equal(free, wantFree) || !slices.Equal(kept, wantKept) {
			t.Fatalf("seen %v: an answer shares memory with what came in, or with another answer", seen)
		}
	}
}

// spoil writes over a list and all the room behind it.
func spoil(l []api.Bagged) {
	l = l[:cap(l)]
	for i := range l {
		l[i] = api.Bagged{Cell: -55, Gen: -56, N: -57}
	}
}

// P3: the same is answered to the same, whatever was asked ahead, and by however many goroutines.
func TestBeside(t *testing.T) {
	done := make(chan bool)
	for i := range 8 {
		go func() { done <- goesAlone(i) }()
	}
	for range 8 {
		if !<-done {
			t.Error("an answer was another one beside others")
		}
	}
}

// goesAlone tells whether the calls answer as they do by themselves, asked again and again.
func goesAlone(seed int) bool {
	c := chance(seed)
	for range 300 {
		bag := cells(c.next(4), c.next(4), c.next(4))
		seen := []int64{int64(c.next(4)), int64(c.next(4))}
		wantFree, wantKept := splitWants(bag, seen)
		free, kept := hazard.Split(bag, seen)
		if !slices.Equal(free, wantFree) || !slices.Equal(kept, wantKept) {
			return false
		}
		threads, slots := c.next(6), c.next(4)
		l := slotsWants(threads, slots)
		x, ok := hazard.Slot(c.next(len(l)+1), threads, slots)
		if hazard.Count(threads, slots) != len(l) || ok != slices.Contains(l, x) {
			return false
		}
	}
	return true
}
