package reach_test

import (
	"fmt"
	"math"
	"slices"
	"sync"
	"testing"

	"warrener/api"
	"warrener/reach"
)

const (
	least = math.MinInt
	most  = math.MaxInt

	// The states, as the page about the arena has them.
	free    = 0
	live    = 1
	retired = 2

	// leak is the kind of a key that tells of one.
	leak = 6
)

// strange are states that no arena gives a cell; some are one of the three when they are cut to fewer bits.
var strange = []int{-1, -2, 3, 4, 255, 256, 257, 258, 1 << 31, 1 << 32, 1<<32 + 1, 1<<32 + 2, -1 << 32, -1<<32 + 1, most, most - 1, least, least + 1, least + 2}

// lives are of all kinds, and such that are the same when they are cut to fewer bits.
var lives = []int{0, 1, 2, 3, -1, -2, 255, 256, 257, 1 << 31, 1 << 32, 1<<32 + 1, -1 << 32, most - 1, most, least, least + 1}

// lost are no cells: numbers below 1. Some are one of six when they are cut to fewer bits.
var lost = []int{0, -1, -2, -6, -7, -255, -1 << 31, -1 << 32, -1<<32 + 1, least + 2, least + 1, least}

// numbers are what a word's may be, whether it is a pointer or not.
var numbers = []int64{0, 1, 2, 6, 7, -1, 1 << 32, math.MinInt64, math.MaxInt64}

// owners are what By and Pc may be, rising.
var owners = []int{least, -1, 0, 1, most}

// beyond stands behind the lists that are handed in, where nobody may write.
var (
	beyondWord = api.Word{N: 99, Cell: 98, Gen: 97}
	beyondCell = api.Cell{Status: 96, Gen: 95, By: 94, Pc: 93}
)

// to is a pointer.
func to(cell int, gen int) api.Word {
	return api.Word{N: int64(cell), Cell: cell, Gen: gen}
}

// all are so many cells of that state, in life 1, each given out by another thread; their fields point to nothing.
func all(cells int, status int) []api.Cell {
	var l []api.Cell
	for i := range cells {
		l = append(l, api.Cell{Status: status, Gen: 1, By: i, Pc: 100 - i})
	}
	return l
}

// reachedWants is what the page says, round by round, till a round brings no cell more.
func reachedWants(l []api.Word, cells []api.Cell) []bool {
	words := slices.Clone(l)
	reached := make([]bool, len(cells))
	for more := true; more; {
		more = false
		for i, c := range cells {
			by := func(w api.Word) bool { return w.Cell == i+1 && w.Gen == c.Gen && c.Status != free }
			if !reached[i] && slices.ContainsFunc(words, by) {
				reached[i] = true
				more = true
				words = append(words, c.F[0], c.F[1])
			}
		}
	}
	return reached
}

// leaksWants is what the page says of cells of which it is known whether they are reached: each leak ahead of the first one that it stands below.
func leaksWants(reached []bool, cells []api.Cell) []api.Key {
	var keys []api.Key
	for i, c := range cells {
		k := api.Key{Kind: leak, Thread: c.By, Pc: c.Pc}
		if c.Status != live || reached[i] || slices.Contains(keys, k) {
			continue
		}
		at := 0
		for at < len(keys) && (keys[at].Thread < k.Thread || keys[at].Thread == k.Thread && keys[at].Pc < k.Pc) {
			at++
		}
		keys = slices.Insert(keys, at, k)
	}
	return keys
}

// wrong tells how Reached and Leaks differ from what is wanted, and whether they changed what came in; nothing, if all is well.
func wrong(l []api.Word, cells []api.Cell, reached []bool, keys []api.Key) string {
	words := append(slices.Clone(l), beyondWord)
	stock := append(slices.Clone(cells), beyondCell)
	told := ""
	if got := reach.Reached(words[:len(l)], stock[:len(cells)]); !slices.Equal(got, reached) {
		told += fmt.Sprintf("Reached(%v, %v) = %v, want %v\n", l, cells, got, reached)
	}
	if got := reach.Leaks(words[:len(l)], stock[:len(cells)]); !slices.Equal(got, keys) {
		told += fmt.Sprintf("Leaks(%v, %v) = %v, want %v\n", l, cells, got, keys)
	}
	if !slices.Equal(words, append(slices.Clone(l), beyondWord)) || !slices.Equal(stock, append(slices.Clone(cells), beyondCell)) {
		told += fmt.Sprintf("of %v, %v was made %v, %v\n", l, cells, words, stock)
	}
	return told
}

// hold fails if Reached does not tell just the cells that are wanted, or Leaks not what follows from that.
func hold(t *testing.T, l []api.Word, cells []api.Cell, want ...int) {
	t.Helper()
	reached := make([]bool, len(cells))
	for _, cell := range want {
		reached[cell-1] = true
	}
	if told := wrong(l, cells, reached, leaksWants(reached, cells)); told != "" {
		t.Fatal(told)
	}
}

// holdPage fails if Reached or Leaks do not tell what the page says, round by round.
func holdPage(t *testing.T, l []api.Word, cells []api.Cell) []bool {
	t.Helper()
	reached := reachedWants(l, cells)
	if told := wrong(l, cells, reached, leaksWants(reached, cells)); told != "" {
		t.Fatal(told)
	}
	return reached
}

// chance is a row of numbers without a short beat.
type chance uint64

func (c *chance) next(below int) int {
	*c = *c*6364136223846793005 + 1442695040888963407
	return int(uint64(*c) >> 33 % uint64(below))
}

// orders are all orders of the numbers from 1 to n.
func orders(n int) [][]int {
	if n == 0 {
		return [][]int{nil}
	}
	var l [][]int
	for _, o := range orders(n - 1) {
		for at := range n {
			l = append(l, slices.Insert(slices.Clone(o), at, n))
		}
	}
	return l
}

// chain has each of the cells in that order point to the one behind it, by that field.
func chain(cells []api.Cell, order []int, f int) {
	for i, cell := range order[1:] {
		cells[order[i]-1].F[f] = to(cell, cells[cell-1].Gen)
	}
}

// The chapter's example, and P17.1: a live cell, and no word: a leak.
func TestExample(t *testing.T) {
	cells := []api.Cell{{Status: api.Live, Gen: 1, By: 2, Pc: 3}}
	if got := reach.Leaks(nil, cells); !slices.Equal(got, []api.Key{{Kind: api.Leak, Thread: 2, Pc: 3}}) {
		t.Fatalf("Leaks = %v", got)
	}
	if got := reach.Reached(nil, cells); !slices.Equal(got, []bool{false}) {
		t.Fatalf("Reached = %v", got)
	}
	word := []api.Word{{N: 1, Cell: 1, Gen: 1}}
	if got := reach.Leaks(word, cells); len(got) != 0 {
		t.Fatalf("Leaks of a word = %v", got)
	}
	if got := reach.Reached(word, cells); !slices.Equal(got, []bool{true}) {
		t.Fatalf("Reached of a word = %v", got)
	}
}

// P17.1, P5: nil and empty lists are one; the answer has one for each cell, however many there are.
func TestEmpty(t *testing.T) {
	for _, l := range [][]api.Word{nil, {}, {{}}, {to(1, 1)}, {to(0, 0), to(-1, 1)}} {
		for _, cells := range [][]api.Cell{nil, {}} {
			if got := reach.Reached(l, cells); len(got) != 0 {
				t.Fatalf("Reached(%v, %v) = %v", l, cells, got)
			}
			if got := reach.Leaks(l, cells); len(got) != 0 {
				t.Fatalf("Leaks(%v, %v) = %v", l, cells, got)
			}
		}
	}
	for _, cells := range []int{1, 2, 5, 6, 7, 8, 63, 64, 65, 300} {
		for _, status := range []int{free, live, retired} {
			for _, l := range [][]api.Word{nil, {}, {{}}} {
				hold(t, l, all(cells, status))
			}
		}
	}
}

// P17.1: a word reaches just the cell to which it points, the first being cell 1; none, where there is no such cell.
func TestOneWord(t *testing.T) {
	for _, cells := range []int{1, 2, 5, 6, 7, 8, 63, 64, 65, 300} {
		for _, status := range []int{live, retired} {
			for cell := 1; cell <= cells; cell++ {
				hold(t, []api.Word{to(cell, 1)}, all(cells, status), cell)
				hold(t, []api.Word{to(cell, 1), to(cells, 1)}, all(cells, status), cell, cells)
				hold(t, []api.Word{to(cell, 1), to(cell, 1), {}}, all(cells, status), cell)
			}
			for _, cell := range append([]int{cells + 1, cells + 2, cells + 256, 1<<31 + 1, 1<<32 + 1, 1<<32 + cells, most - 1, most}, lost...) {
				hold(t, []api.Word{to(cell, 1)}, all(cells, status))
				hold(t, []api.Word{to(cell, 1), to(1, 1), to(cell, 1)}, all(cells, status), 1)
			}
		}
	}
}

// P17.1: plain words reach nothing, whatever their numbers are, and so do words without a cell that have a life, be they from outside or in a field.
func TestPlain(t *testing.T) {
	for _, n := range numbers {
		for _, gen := range lives {
			for _, cell := range lost {
				w := api.Word{N: n, Cell: cell, Gen: gen}
				stock := all(6, live)
				for i := range stock {
					stock[i].Gen = gen
				}
				hold(t, []api.Word{w}, stock)
				stock[0].F = [2]api.Word{w, w}
				hold(t, []api.Word{w, {N: 1, Cell: 1, Gen: gen}, w}, stock, 1)
			}
		}
	}
}

// P17.1: a word reaches a cell in its life alone, and not while it is free; states that are no cell's are not free, and not live.
func TestLives(t *testing.T) {
	for _, status := range append([]int{free, live, retired}, strange...) {
		for _, gen := range lives {
			for _, life := range append([]int{gen - 1, gen + 1, gen + 256, gen + 1<<32, -gen}, lives...) {
				w := to(2, life)
				cells := []api.Cell{{Status: live, Gen: life}, {Status: status, Gen: gen, By: 1, Pc: 2}}
				if life == gen && status != free {
					hold(t, []api.Word{w}, cells, 2)
				} else {
					hold(t, []api.Word{w}, cells)
				}
			}
		}
	}
}

// P17.1: the cell and the life alone are asked, not the word's number, in words and in fields.
func TestNumbers(t *testing.T) {
	for _, n := range numbers {
		for cell := 1; cell <= 6; cell++ {
			w := api.Word{N: n, Cell: cell, Gen: 1}
			hold(t, []api.Word{w}, all(6, live), cell)
			cells := append(all(6, retired), api.Cell{Status: live, Gen: 3, F: [2]api.Word{{N: n, Cell: 7, Gen: 3}, w}})
			hold(t, []api.Word{{N: n, Cell: 7, Gen: 3}}, cells, cell, 7)
		}
	}
}

// P17.1: a cell is reached by a field alone, by either one, and not by the fields of cells that are not reached, or are free.
func TestFields(t *testing.T) {
	for from := 1; from <= 6; from++ {
		for cell := 1; cell <= 6; cell++ {
			for f := range 2 {
				for _, status := range []int{live, retired, 3} {
					cells := all(6, live)
					cells[from-1].Status = status
					cells[from-1].F[f] = to(cell, 1)
					hold(t, nil, cells)
					hold(t, []api.Word{to(from, 1)}, cells, from, cell)
					hold(t, []api.Word{to(from, 2), to(from, 0), {N: int64(from)}}, cells)
					cells[from-1].Status = free
					hold(t, []api.Word{to(from, 1)}, cells)
				}
			}
		}
	}
}

// P17.1: both fields of each cell are gone through: a tree, whose cells stand in rising and in falling order.
func TestTree(t *testing.T) {
	const cells = 31
	for _, name := range []func(int) int{func(n int) int { return n }, func(n int) int { return cells + 1 - n }} {
		for top := 1; top <= cells; top++ {
			stock := all(cells, live)
			for n := 1; 2*n < cells; n++ {
				stock[name(n)-1].F = [2]api.Word{to(name(2*n), 1), to(name(2*n+1), 1)}
			}
			var want []int
			for n := 1; n <= cells; n++ {
				above := n
				for above > top {
					above /= 2
				}
				if above == top {
					want = append(want, name(n))
				}
			}
			hold(t, []api.Word{to(name(top), 1)}, stock, want...)
		}
	}
}

// P17.1: chains through each order of six cells, by either field, from each place on.
func TestChains(t *testing.T) {
	for _, order := range orders(6) {
		for f := range 2 {
			cells := all(6, live)
			chain(cells, order, f)
			for k := range order {
				hold(t, []api.Word{to(order[k], 1)}, cells, order[k:]...)
			}
			// The other field leads back to the first one.
			cells[order[5]-1].F[1-f] = to(order[0], 1)
			for k := range order {
				hold(t, []api.Word{to(order[k], 1)}, cells, order...)
			}
		}
	}
}

// P17.1: a chain, in each order, ends at a free cell and at another life, and goes on through a retired one, and through one of no state.
func TestBroken(t *testing.T) {
	for _, order := range orders(6) {
		for k, cell := range order {
			for f := range 2 {
				cells := all(6, live)
				chain(cells, order, f)
				word := []api.Word{to(order[0], 1)}
				for _, status := range []int{retired, 3, -1} {
					cells[cell-1].Status = status
					hold(t, word, cells, order...)
				}
				cells[cell-1].Status = free
				hold(t, word, cells, order[:k]...)
				hold(t, append(word, to(cell, 1)), cells, order[:k]...)
				if k < 5 {
					hold(t, append(word, to(order[k+1], 1)), cells, append(slices.Clone(order[:k]), order[k+1:]...)...)
				}
				cells[cell-1].Status = live
				for _, gen := range []int{0, 2, -1, 1<<32 + 1, most, least} {
					cells[cell-1].Gen = gen
					hold(t, word, cells, order[:k]...)
				}
			}
		}
	}
}

// P17.1: cells that are retired through and through are reached as live ones are, and none of them leaks.
func TestRetiredChain(t *testing.T) {
	for _, order := range orders(5) {
		cells := all(5, retired)
		chain(cells, order, 0)
		hold(t, []api.Word{to(order[0], 1)}, cells, order...)
		hold(t, nil, cells)
		cells[order[4]-1].Status = live
		hold(t, []api.Word{to(order[0], 1)}, cells, order...)
		if got := reach.Leaks(nil, cells); len(got) != 1 || got[0].Thread != order[4]-1 {
			t.Fatalf("Leaks(nil, %v) = %v", cells, got)
		}
	}
}

// P17.1: rings of each length, with a word to each of their cells, and with none: then none of them is reached. A ring of one is a cell that only its own field points to.
func TestRings(t *testing.T) {
	for long := 1; long <= 6; long++ {
		for _, order := range orders(6) {
			for f := range 2 {
				cells := all(6, live)
				ring := order[:long]
				chain(cells, ring, f)
				cells[ring[long-1]-1].F[f] = to(ring[0], 1)
				hold(t, nil, cells)
				for _, cell := range ring {
					hold(t, []api.Word{to(cell, 1)}, cells, ring...)
				}
				for _, cell := range order[long:] {
					hold(t, []api.Word{to(cell, 1)}, cells, cell)
				}
				// A tail leads into the ring, not out of it.
				if long < 6 {
					cells[order[long]-1].F[1-f] = to(ring[0], 1)
					hold(t, []api.Word{to(order[long], 1)}, cells, order[:long+1]...)
					hold(t, []api.Word{to(ring[0], 1)}, cells, ring...)
				}
			}
		}
	}
}

// P17.1: a cell to which both of its own fields point is reached by a word alone.
func TestSelf(t *testing.T) {
	for cells := 1; cells <= 8; cells++ {
		stock := all(cells, live)
		for i := range stock {
			stock[i].F = [2]api.Word{to(i+1, 1), to(i+1, 1)}
		}
		hold(t, nil, stock)
		for cell := 1; cell <= cells; cell++ {
			hold(t, []api.Word{to(cell, 1)}, stock, cell)
		}
	}
}

// P17.1: every three cells, of all states and with all fields, from a word to the second one, and from none.
func TestAllOfThree(t *testing.T) {
	for states := range 27 {
		for fields := range 4 * 4 * 4 * 4 * 4 * 4 {
			cells := make([]api.Cell, 3)
			for i, n, m := 0, states, fields; i < 3; i++ {
				cells[i] = api.Cell{Status: n % 3, Gen: 1, By: i % 2, F: [2]api.Word{to(m%4, 1), to(m/4%4, 1)}}
				n, m = n/3, m/16
			}
			holdPage(t, []api.Word{to(2, 1)}, cells)
			if fields%16 == 7 {
				holdPage(t, nil, cells)
			}
		}
	}
}

// P17.1: a leak is a cell that is live and not reached: of all states, reached from outside, by a field, and not at all.
func TestLeaks(t *testing.T) {
	for _, status := range append([]int{free, live, retired}, strange...) {
		for cell := 1; cell <= 6; cell++ {
			cells := append(all(6, retired), api.Cell{Status: live, Gen: 2, By: 7, Pc: 8, F: [2]api.Word{{}, to(cell, 1)}})
			cells[cell-1] = api.Cell{Status: status, Gen: 1, By: 3, Pc: 4}
			var want []api.Key
			if status == live {
				want = []api.Key{{Kind: leak, Thread: 3, Pc: 4}}
			}
			holdLeaks(t, nil, cells, append(want, api.Key{Kind: leak, Thread: 7, Pc: 8})...)
			holdLeaks(t, []api.Word{to(cell, 1)}, cells, api.Key{Kind: leak, Thread: 7, Pc: 8})
			holdLeaks(t, []api.Word{to(7, 2)}, cells)
			cells[6].F[1] = to(cell, 2)
			holdLeaks(t, []api.Word{to(7, 2), to(cell, 0)}, cells, want...)
		}
	}
}

func holdLeaks(t *testing.T, l []api.Word, cells []api.Cell, want ...api.Key) {
	t.Helper()
	if got := reach.Leaks(l, cells); !slices.Equal(got, want) {
		t.Fatalf("Leaks(%v, %v) = %v, want %v", l, cells, got, want)
	}
}

// rising are the leaks by all owners, at all places, in their order.
func rising() []api.Key {
	var l []api.Key
	for _, by := range owners {
		for _, pc := range owners {
			l = append(l, api.Key{Kind: leak, Thread: by, Pc: pc})
		}
	}
	return l
}

// given is a live cell in its life 1 that was given out as the key tells.
func given(k api.Key) api.Cell {
	return api.Cell{Status: live, Gen: 1, By: k.Thread, Pc: k.Pc}
}

// P17.1: one leak tells By and Pc, whatever they are.
func TestOwners(t *testing.T) {
	for _, k := range rising() {
		holdLeaks(t, nil, []api.Cell{given(k)}, k)
		cell := given(k)
		cell.Gen = k.Pc
		cell.F = [2]api.Word{to(1, k.Pc), {N: 5}}
		holdLeaks(t, nil, []api.Cell{cell}, k)
		holdLeaks(t, []api.Word{to(1, k.Pc)}, []api.Cell{cell})
	}
}

// P17.1: leaks rise by Thread, then Pc, each once: of each three cells, in all orders in which they may stand.
func TestRising(t *testing.T) {
	keys := rising()
	for a, x := range keys {
		for b, y := range keys {
			for c, z := range keys {
				places := []int{a, b, c}
				slices.Sort(places)
				var want []api.Key
				for _, at := range slices.Compact(places) {
					want = append(want, keys[at])
				}
				holdLeaks(t, nil, []api.Cell{given(x), given(y), given(z)}, want...)
			}
		}
	}
}

// P17.1: six cells of which some have the same By and Pc, in all orders: one key of each. Cells that tell no leak stand between them.
func TestRisingOrders(t *testing.T) {
	named := []api.Key{
		{Kind: leak, Thread: 1, Pc: 2}, {Kind: leak, Thread: 0, Pc: 3}, {Kind: leak, Thread: 1, Pc: 2},
		{Kind: leak, Thread: 0, Pc: 1}, {Kind: leak, Thread: -1, Pc: 9}, {Kind: leak, Thread: 0, Pc: 3},
	}
	want := []api.Key{{Kind: leak, Thread: -1, Pc: 9}, {Kind: leak, Thread: 0, Pc: 1}, {Kind: leak, Thread: 0, Pc: 3}, {Kind: leak, Thread: 1, Pc: 2}}
	for _, order := range orders(6) {
		var cells, spread []api.Cell
		for _, n := range order {
			cells = append(cells, given(named[n-1]))
			spread = append(spread, api.Cell{Status: free, By: 5}, given(named[n-1]), api.Cell{Status: retired, By: 6})
		}
		holdLeaks(t, nil, cells, want...)
		holdLeaks(t, nil, spread, want...)
		// One of two cells with the same key is reached, or both are.
		one, two := slices.Index(order, 2)+1, slices.Index(order, 6)+1
		holdLeaks(t, []api.Word{to(one, 1)}, cells, want...)
		holdLeaks(t, []api.Word{to(two, 1)}, cells, want...)
		holdLeaks(t, []api.Word{to(two, 1), to(one, 1)}, cells, want[0], want[1], want[3])
	}
}

// P17.1: all 25 leaks at once, in many orders, each of them twice.
func TestRisingMany(t *testing.T) {
	c := chance(17)
	for range 500 {
		var cells []api.Cell
		for _, k := range rising() {
			cells = slices.Insert(cells, c.next(len(cells)+1), given(k))
			cells = slices.Insert(cells, c.next(len(cells)+1), given(k))
		}
		holdLeaks(t, nil, cells, rising()...)
	}
}

// lifeByChance is most often 1.
func lifeByChance(c *chance) int {
	return 1 - c.next(5)/4
}

// wordByChance points most often to one of the cells, or to none at all, in one of a few lives.
func wordByChance(c *chance, cells int) api.Word {
	w := api.Word{N: numbers[c.next(len(numbers))], Cell: 1 + c.next(cells+1), Gen: lifeByChance(c)}
	switch c.next(12) {
	case 0:
		w.Cell = lost[c.next(len(lost))]
	case 1:
		w.Cell = cells + 1 + c.next(3)
	case 2:
		w.Gen = lives[c.next(len(lives))]
	case 3, 4:
		return api.Word{N: w.N}
	}
	return w
}

// cellsByChance are most often live, with a few owners, so that some have the same.
func cellsByChance(c *chance, cells int) []api.Cell {
	var l []api.Cell
	for range cells {
		x := api.Cell{Status: []int{live, live, live, live, retired, retired, free, strange[c.next(len(strange))]}[c.next(8)], Gen: lifeByChance(c), By: c.next(3), Pc: c.next(3)}
		if c.next(9) == 0 {
			x.By, x.Pc, x.Gen = owners[c.next(5)], owners[c.next(5)], lives[c.next(len(lives))]
		}
		x.F = [2]api.Word{wordByChance(c, cells), wordByChance(c, cells)}
		l = append(l, x)
	}
	return l
}

// wordsByChance are up to so many.
func wordsByChance(c *chance, up int, cells int) []api.Word {
	var l []api.Word
	for range c.next(up + 1) {
		l = append(l, wordByChance(c, cells))
	}
	return l
}

// P17.1: words and cells by chance, held against what the page says, round by round.
func TestChance(t *testing.T) {
	c := chance(1)
	seen := [2]int{}
	for range 20000 {
		n := c.next(10)
		cells := cellsByChance(&c, n)
		for _, got := range holdPage(t, wordsByChance(&c, 4, n), cells) {
			if got {
				seen[1]++
			} else {
				seen[0]++
			}
		}
	}
	if seen[0] < 10000 || seen[1] < 10000 {
		t.Fatalf("reached and not: %v", seen)
	}
}

// P17.1: many words and many cells.
func TestChanceMany(t *testing.T) {
	c := chance(2)
	for range 12 {
		n := 200 + c.next(600)
		holdPage(t, wordsByChance(&c, n/20, n), cellsByChance(&c, n))
		holdPage(t, wordsByChance(&c, 4*n, n), cellsByChance(&c, n))
	}
}

// P17.2: with a word more, at any place, no cell is reached less, and no leak comes to be.
func TestMore(t *testing.T) {
	c := chance(3)
	more := 0
	for range 3000 {
		n := c.next(9)
		l, cells := wordsByChance(&c, 5, n), cellsByChance(&c, n)
		reached, keys := reach.Reached(l, cells), reach.Leaks(l, cells)
		w := wordByChance(&c, n)
		for at := range len(l) + 1 {
			longer := slices.Insert(slices.Clone(l), at, w)
			now := reach.Reached(longer, cells)
			if len(now) != len(reached) {
				t.Fatalf("Reached(%v, %v) = %v, ahead %v", longer, cells, now, reached)
			}
			for i := range reached {
				if reached[i] && !now[i] {
					t.Fatalf("Reached(%v, %v) = %v, ahead %v", longer, cells, now, reached)
				}
				if !reached[i] && now[i] {
					more++
				}
			}
			for _, k := range reach.Leaks(longer, cells) {
				if !slices.Contains(keys, k) {
					t.Fatalf("Leaks(%v, %v) has %v, ahead %v", longer, cells, k, keys)
				}
			}
		}
	}
	if more < 1000 {
		t.Fatalf("no more than %d were reached more", more)
	}
}

// P17.2: words come one by one, till each cell is pointed to; then all that are not free are reached, and nothing leaks.
func TestMoreAndMore(t *testing.T) {
	c := chance(4)
	for range 300 {
		n := 1 + c.next(12)
		cells := cellsByChance(&c, n)
		var l []api.Word
		last := reach.Reached(l, cells)
		for i := range cells {
			l = append(l, api.Word{Cell: i + 1, Gen: cells[i].Gen})
			now := reach.Reached(l, cells)
			for j := range last {
				if last[j] && !now[j] || j <= i && now[j] != (cells[j].Status != free) {
					t.Fatalf("Reached(%v, %v) = %v, ahead %v", l, cells, now, last)
				}
			}
			last = now
		}
		holdLeaks(t, l, cells)
	}
}

// P1: chains, words and leaks in great numbers come to an end, in rising and in falling order.
func TestLong(t *testing.T) {
	const long = 1 << 18
	cells := all(long, live)
	for i := range cells {
		cells[i].F[i%2] = to(i+2, 1)
		cells[i].By, cells[i].Pc = i%3, i%2
	}
	holdCount(t, []api.Word{to(1, 1)}, cells, long)
	holdCount(t, []api.Word{to(long/2+1, 1)}, cells, long/2)
	holdCount(t, nil, cells, 0)
	for i := range cells {
		cells[i].F = [2]api.Word{to(i, 1), to(long, 1)}
	}
	holdCount(t, []api.Word{to(long, 1)}, cells, long)
	holdCount(t, []api.Word{to(1, 1)}, cells, long)
	holdCount(t, slices.Repeat([]api.Word{to(2, 1)}, long), cells, long)
	holdCount(t, slices.Repeat([]api.Word{{N: 1}, to(0, 1), to(1, 2)}, long), cells, 0)
}

// holdCount fails if not so many cells are reached, or if the leaks are not those of six owners, or none.
func holdCount(t *testing.T, l []api.Word, cells []api.Cell, want int) {
	t.Helper()
	got := 0
	for _, is := range reach.Reached(l, cells) {
		if is {
			got++
		}
	}
	if got != want {
		t.Fatalf("%d are reached, want %d", got, want)
	}
	var keys []api.Key
	if want < len(cells) {
		keys = []api.Key{{Kind: leak, Thread: 0, Pc: 0}, {Kind: leak, Thread: 0, Pc: 1}, {Kind: leak, Thread: 1, Pc: 0}, {Kind: leak, Thread: 1, Pc: 1}, {Kind: leak, Thread: 2, Pc: 0}, {Kind: leak, Thread: 2, Pc: 1}}
	}
	if told := reach.Leaks(l, cells); !slices.Equal(told, keys) {
		t.Fatalf("Leaks = %v, want %v", told, keys)
	}
}

// P2: answers are new memory each time: who turns one turns no other, and nothing that came in.
func TestAnswers(t *testing.T) {
	cells := all(6, live)
	l := []api.Word{to(1, 1), to(3, 1)}
	reached, keys := reach.Reached(l, cells), reach.Leaks(l, cells)
	other, otherKeys := reach.Reached(l, cells), reach.Leaks(l, cells)
	for i := range reached {
		reached[i] = !reached[i]
	}
	for i := range keys {
		keys[i] = api.Key{Kind: 1, Thread: 2, Pc: 3}
	}
	_ = append(reached, true)
	_ = append(keys, api.Key{Kind: 9})
	want := []api.Key{{Kind: leak, Thread: 1, Pc: 99}, {Kind: leak, Thread: 3, Pc: 97}, {Kind: leak, Thread: 4, Pc: 96}, {Kind: leak, Thread: 5, Pc: 95}}
	if !slices.Equal(other, []bool{true, false, true, false, false, false}) || !slices.Equal(otherKeys, want) {
		t.Fatalf("an answer was turned: %v, %v", other, otherKeys)
	}
	hold(t, l, cells, 1, 3)
	holdLeaks(t, l, cells, want...)
	l[0], cells[3].By = to(2, 1), 7
	if !slices.Equal(other, []bool{true, false, true, false, false, false}) || !slices.Equal(otherKeys, want) {
		t.Fatalf("an answer keeps what came in: %v, %v", other, otherKeys)
	}
	hold(t, l, cells, 2, 3)
}

// P3: calls tell the same however often they are done, and whatever runs beside them; what came in may be asked by many.
func TestBeside(t *testing.T) {
	c := chance(5)
	const n = 60
	l, cells := wordsByChance(&c, 20, n), cellsByChance(&c, n)
	reached := reachedWants(l, cells)
	keys := leaksWants(reached, cells)
	var wait sync.WaitGroup
	for i := range 16 {
		wait.Go(func() {
			own := chance(i)
			for range 100 {
				words, stock := wordsByChance(&own, 3, 5), cellsByChance(&own, 5)
				is := reachedWants(words, stock)
				told := wrong(words, stock, is, leaksWants(is, stock))
				if !slices.Equal(reach.Reached(l, cells), reached) || !slices.Equal(reach.Leaks(l, cells), keys) || told != "" {
					t.Errorf("beside others: %s", told)
					return
				}
			}
		})
	}
	wait.Wait()
}
