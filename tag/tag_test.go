package tag_test

import (
	"fmt"
	"math"
	"math/big"
	"sync"
	"testing"

	"warrener/api"
	"warrener/tag"
)

const (
	least    = math.MinInt64
	greatest = math.MaxInt64
	leastInt = math.MinInt
	mostInt  = math.MaxInt
)

// numbers are ordinary ones, those about the bounds, those about the bounds of fewer bits, and those whose products just go round.
var numbers = []int64{
	least, least + 1, least + 2, least / 2, least/2 - 1, -1<<32 - 1, -1 << 32, -3037000500, -1 << 31, -1<<31 - 1, -1000003, -256, -129, -8, -7, -6, -3, -2, -1,
	0, 1, 2, 3, 6, 7, 8, 127, 128, 255, 256, 1000003, 1<<31 - 1, 1 << 31, 1<<32 - 1, 1 << 32, 1<<32 + 1, 3037000500, 1<<53 + 1, greatest / 2, greatest/2 + 1, greatest - 1, greatest,
}

// noCells are numbers below those of cells.
var noCells = []int{0, -1, -2, -6, -7, -255, -256, -1<<31 - 1, -1 << 31, -1 << 32, -1<<32 + 1, leastInt + 2, leastInt + 1, leastInt}

// cells are numbers from 1 on: those of a program's cells, and greater ones that may not be cells of a program.
var cells = []int{1, 2, 3, 6, 7, 63, 64, 127, 128, 255, 256, 257, 1<<31 - 1, 1 << 31, 1 << 32, 1<<32 + 1, 1 << 62, mostInt - 1, mostInt}

// lives are of all kinds: a pointer keeps whichever was told.
var lives = []int{0, 1, 2, 3, 7, 255, 256, 1 << 31, 1 << 32, 1<<32 + 1, mostInt - 1, mostInt, -1, -2, -256, -1 << 31, -1 << 32, leastInt + 1, leastInt}

// foreign are words that neither Plain nor To makes: no cell, but a life; a cell below 0; a pointer whose number is not its cell's.
var foreign = []api.Word{
	{N: 0, Cell: 0, Gen: 1}, {N: 5, Cell: 0, Gen: -1}, {N: 2, Cell: 0, Gen: 1}, {N: least, Cell: 0, Gen: mostInt}, {N: greatest, Cell: 0, Gen: leastInt},
	{N: 0, Cell: -1, Gen: 0}, {N: -1, Cell: -1, Gen: 1}, {N: 1, Cell: -1, Gen: 1}, {N: 7, Cell: -7, Gen: -7}, {N: least, Cell: leastInt, Gen: leastInt}, {N: greatest, Cell: leastInt, Gen: mostInt},
	{N: 0, Cell: 1, Gen: 0}, {N: 0, Cell: 1, Gen: 1}, {N: 2, Cell: 1, Gen: 1}, {N: 1, Cell: 2, Gen: 1}, {N: -2, Cell: 2, Gen: 1}, {N: least, Cell: 1, Gen: -1}, {N: greatest, Cell: 1, Gen: leastInt}, {N: 0, Cell: mostInt, Gen: 0}, {N: -1, Cell: mostInt, Gen: mostInt}, {N: least, Cell: mostInt, Gen: leastInt},
}

// word is one as the page has it, written out.
func word(n int64, cell int, gen int) api.Word {
	return api.Word{N: n, Cell: cell, Gen: gen}
}

// words are plain ones, pointers, and those that no call makes; none of them comes again.
func words() []api.Word {
	var l []api.Word
	for _, n := range numbers {
		l = append(l, word(n, 0, 0))
	}
	for _, cell := range []int{1, 2, 6, 7, 256, 1 << 32, mostInt} {
		for _, gen := range []int{0, 1, 2, -1, leastInt, mostInt} {
			l = append(l, word(int64(cell), cell, gen))
		}
	}
	return append(l, foreign...)
}

// round takes a whole number of any size modulo 2^64, as a number with a sign.
func round(n *big.Int) int64 {
	whole := new(big.Int).Lsh(big.NewInt(1), 64)
	return int64(new(big.Int).Mod(n, whole).Uint64())
}

// reckonWants is what the page says of an op and two numbers, by whole numbers of any size.
func reckonWants(op int, a int64, b int64) (int64, bool) {
	x, y := big.NewInt(a), big.NewInt(b)
	switch {
	case op == 4:
		return round(new(big.Int).Add(x, y)), true
	case op == 5:
		return round(new(big.Int).Sub(x, y)), true
	case op == 6:
		return round(new(big.Int).Mul(x, y)), true
	case op == 7 && b != 0:
		return round(new(big.Int).Quo(x, y)), true
	}
	return 0, false
}

// otherOps are numbers of ops that reckon nothing: all from 0 to the last one but the four, those beside both ends, those that are one of the four in their lowest bits or but for their sign, and both ends of int.
func otherOps() []int {
	var l []int
	for op := 0; op <= api.OpQuiet; op++ {
		if op < 4 || op > 7 {
			l = append(l, op)
		}
	}
	l = append(l, -1, -2, api.OpQuiet+1, api.OpQuiet+2, 100, 1000, leastInt, leastInt+1, mostInt-1, mostInt)
	for op := 4; op <= 7; op++ {
		l = append(l, -op, ^op, mostInt-op, leastInt+op)
		for _, by := range []int{1 << 5, 1 << 8, 1 << 16, 1 << 31, 1 << 32, 1 << 62} {
			l = append(l, op+by, op-by)
		}
	}
	return l
}

// chance is a row of numbers without a short beat.
type chance uint64

func (c *chance) next(below int) int {
	*c = *c*6364136223846793005 + 1442695040888963407
	return int(uint64(*c) >> 33 % uint64(below))
}

// number is one of all 64 bits, of any width.
func (c *chance) number() int64 {
	n := int64(c.next(1<<31))<<33 ^ int64(c.next(1<<31))<<11 ^ int64(c.next(1<<11))
	return n >> c.next(64)
}

// word is one of any three numbers.
func (c *chance) word() api.Word {
	return word(c.number(), int(c.number()), int(c.number()))
}

// wrongMade tells how Plain, To and Is differ from the page; nothing, if they do not.
func wrongMade(n int64, cell int, gen int) string {
	told := ""
	if got := tag.Plain(n); got != word(n, 0, 0) || tag.Is(got) {
		told += fmt.Sprintf("Plain(%d) = %+v, Is %v\n", n, got, tag.Is(got))
	}
	want := word(0, 0, 0)
	if cell >= 1 {
		want = word(int64(cell), cell, gen)
	}
	if got := tag.To(cell, gen); got != want || tag.Is(got) != (cell >= 1) {
		told += fmt.Sprintf("To(%d, %d) = %+v, Is %v, want %+v\n", cell, gen, got, tag.Is(got), want)
	}
	if w := word(n, cell, gen); tag.Is(w) != (cell > 0) {
		told += fmt.Sprintf("Is(%+v) = %v\n", w, tag.Is(w))
	}
	return told
}

// wrongPair tells how Equal and Alike differ from the page.
func wrongPair(a api.Word, b api.Word) string {
	told := ""
	if got := tag.Equal(a, b); got != (a.N == b.N) {
		told += fmt.Sprintf("Equal(%+v, %+v) = %v\n", a, b, got)
	}
	if got := tag.Alike(a, b); got != (a.N == b.N && a.Cell == b.Cell && a.Gen == b.Gen) {
		told += fmt.Sprintf("Alike(%+v, %+v) = %v\n", a, b, got)
	}
	return told
}

// wrongArith tells how Arith differs from the page.
func wrongArith(op int, a api.Word, b api.Word) string {
	n, ok := reckonWants(op, a.N, b.N)
	if got, gotOK := tag.Arith(op, a, b); got != word(n, 0, 0) || gotOK != ok {
		return fmt.Sprintf("Arith(%d, %+v, %+v) = %+v, %v, want %d plain, %v\n", op, a, b, got, gotOK, n, ok)
	}
	return ""
}

func hold(t *testing.T, told string) {
	t.Helper()
	if told != "" {
		t.Error(told)
	}
}

// holdArith looks at one sum, difference, product or quotient that is written out.
func holdArith(t *testing.T, op int, a int64, b int64, want int64) {
	t.Helper()
	if got, ok := tag.Arith(op, tag.Plain(a), tag.Plain(b)); got != word(want, 0, 0) || !ok {
		t.Errorf("Arith(%d, %d, %d) = %+v, %v, want %d plain, true", op, a, b, got, ok, want)
	}
}

// holdNone looks at what nothing is reckoned of.
func holdNone(t *testing.T, op int, a api.Word, b api.Word) {
	t.Helper()
	if got, ok := tag.Arith(op, a, b); got != word(0, 0, 0) || ok {
		t.Errorf("Arith(%d, %+v, %+v) = %+v, %v, want 0 plain, false", op, a, b, got, ok)
	}
}

// P15.1: the chapter's example.
func TestExample(t *testing.T) {
	a, b := tag.To(2, 1), tag.Plain(2)
	if !tag.Equal(a, b) || !tag.Equal(b, a) {
		t.Errorf("%+v and %+v are not equal", a, b)
	}
	if tag.Alike(a, b) || tag.Alike(b, a) {
		t.Errorf("%+v and %+v are alike", a, b)
	}
}

// P15.1: Plain of 0, of ordinary numbers and at the bounds: the number stays, and there is neither cell nor life.
func TestPlain(t *testing.T) {
	for _, n := range append([]int64{0, 1, -1, least, greatest}, numbers...) {
		if got := tag.Plain(n); got.N != n || got.Cell != 0 || got.Gen != 0 {
			t.Errorf("Plain(%d) = %+v", n, got)
		}
	}
}

// P15.1: To of a cell: the cell is the number, too, and the life stays as it was told.
func TestTo(t *testing.T) {
	for _, cell := range cells {
		for _, gen := range lives {
			if got := tag.To(cell, gen); got.N != int64(cell) || got.Cell != cell || got.Gen != gen {
				t.Errorf("To(%d, %d) = %+v", cell, gen, got)
			}
		}
	}
}

// P15.1: To of what is below 1 is the plain word 0, whatever the life.
func TestToNoCell(t *testing.T) {
	for _, cell := range noCells {
		for _, gen := range lives {
			if got := tag.To(cell, gen); got.N != 0 || got.Cell != 0 || got.Gen != 0 {
				t.Errorf("To(%d, %d) = %+v", cell, gen, got)
			}
		}
	}
}

// P15.1: Is of plain words and of pointers.
func TestIs(t *testing.T) {
	for _, n := range numbers {
		if tag.Is(tag.Plain(n)) {
			t.Errorf("Is(Plain(%d)) = true", n)
		}
	}
	for _, gen := range lives {
		for _, cell := range cells {
			if !tag.Is(tag.To(cell, gen)) {
				t.Errorf("Is(To(%d, %d)) = false", cell, gen)
			}
		}
		for _, cell := range noCells {
			if tag.Is(tag.To(cell, gen)) {
				t.Errorf("Is(To(%d, %d)) = true", cell, gen)
			}
		}
	}
	if tag.Is(api.Word{}) {
		t.Error("Is of the word of noughts = true")
	}
}

// P15.1: Is of words that no call made: the cell alone counts, whatever the number and the life.
func TestIsForeign(t *testing.T) {
	for _, n := range numbers {
		for _, gen := range lives {
			for _, cell := range cells {
				if w := word(n, cell, gen); !tag.Is(w) {
					t.Errorf("Is(%+v) = false", w)
				}
			}
			for _, cell := range noCells {
				if w := word(n, cell, gen); tag.Is(w) {
					t.Errorf("Is(%+v) = true", w)
				}
			}
		}
	}
	for _, w := range foreign {
		if got := tag.Is(w); got != (w.Cell > 0) {
			t.Errorf("Is(%+v) = %v", w, got)
		}
	}
}

// P15.1: Equal goes by the numbers alone, whatever the cells and the lives are.
func TestEqual(t *testing.T) {
	cases := []struct {
		a, b api.Word
		want bool
	}{
		{word(0, 0, 0), word(0, 0, 0), true}, {word(5, 0, 0), word(5, 0, 0), true}, {word(-5, 0, 0), word(-5, 0, 0), true},
		{word(5, 0, 0), word(-5, 0, 0), false}, {word(5, 0, 0), word(6, 0, 0), false}, {word(0, 0, 0), word(1, 0, 0), false}, {word(least, 0, 0), word(greatest, 0, 0), false}, {word(least, 0, 0), word(0, 0, 0), false}, {word(1, 0, 0), word(1<<32+1, 0, 0), false},
		{word(2, 2, 1), word(2, 2, 1), true}, {word(2, 2, 1), word(2, 2, 2), true}, {word(2, 2, 1), word(3, 3, 1), false},
		{word(2, 2, 1), word(2, 0, 0), true}, {word(2, 0, 0), word(2, 2, 1), true}, {word(2, 2, 1), word(1, 0, 0), false}, {word(2, 2, 1), word(0, 0, 0), false},
		{word(2, 2, 1), word(2, 3, 1), true}, {word(2, 0, 1), word(2, 0, 2), true}, {word(2, -1, 1), word(2, 1, -1), true}, {word(4, 2, 1), word(2, 2, 1), false}, {word(0, 2, 1), word(0, 0, 0), true},
	}
	for _, c := range cases {
		if got := tag.Equal(c.a, c.b); got != c.want {
			t.Errorf("Equal(%+v, %+v) = %v", c.a, c.b, got)
		}
		if got := tag.Equal(c.b, c.a); got != c.want {
			t.Errorf("Equal(%+v, %+v) = %v", c.b, c.a, got)
		}
	}
}

// P15.1: Alike goes by all three, of words that differ in none of them, in one, in two, and in all.
func TestAlike(t *testing.T) {
	for _, a := range words() {
		for bits := range 8 {
			for _, by := range []int{1, -1, 2, 1 << 8, 1 << 32, leastInt, mostInt} {
				b := a
				if bits&1 != 0 {
					b.N += int64(by)
				}
				if bits&2 != 0 {
					b.Cell += by
				}
				if bits&4 != 0 {
					b.Gen += by
				}
				if got := tag.Alike(a, b); got != (bits == 0) {
					t.Errorf("Alike(%+v, %+v) = %v", a, b, got)
				}
				if got := tag.Alike(b, a); got != (bits == 0) {
					t.Errorf("Alike(%+v, %+v) = %v", b, a, got)
				}
			}
		}
	}
}

// P15.1: differences that would make up for each other do not.
func TestAlikeMadeUp(t *testing.T) {
	pairs := [][2]api.Word{
		{word(1, 2, 3), word(2, 1, 3)}, {word(1, 2, 3), word(3, 2, 1)}, {word(1, 2, 3), word(1, 3, 2)}, {word(1, 2, 3), word(2, 3, 1)},
		{word(1, 1, 0), word(0, 0, 1)}, {word(0, 1, 1), word(0, 0, 0)}, {word(1, 1, 1), word(0, 0, 0)}, {word(0, 0, 1), word(0, 1, 0)},
		{word(2, 0, 0), word(2, 2, 0)}, {word(2, 2, 0), word(2, 2, 1)}, {word(5, 5, -5), word(-5, 5, 5)},
	}
	for _, p := range pairs {
		if tag.Alike(p[0], p[1]) || tag.Alike(p[1], p[0]) {
			t.Errorf("%+v and %+v are alike", p[0], p[1])
		}
	}
}

// P15.1: Equal and Alike of each pair of words of all kinds.
func TestPairs(t *testing.T) {
	l := words()
	for i, a := range l {
		for j, b := range l {
			hold(t, wrongPair(a, b))
			if got := tag.Alike(a, b); got != (i == j) {
				t.Errorf("Alike(%+v, %+v) = %v", a, b, got)
			}
			if tag.Alike(a, b) && !tag.Equal(a, b) {
				t.Errorf("%+v and %+v are alike, not equal", a, b)
			}
		}
	}
}

// P15.1: sums, differences and products, which go round beyond the bounds.
func TestGoneRound(t *testing.T) {
	for _, c := range [][3]int64{{2, 3, 5}, {2, -3, -1}, {-2, -3, -5}, {0, 0, 0}, {0, least, least}, {greatest, 1, least}, {1, greatest, least}, {least, -1, greatest}, {least, least, 0}, {greatest, greatest, -2}, {least, greatest, -1}} {
		holdArith(t, api.OpAdd, c[0], c[1], c[2])
	}
	for _, c := range [][3]int64{{5, 3, 2}, {3, 5, -2}, {-3, -5, 2}, {0, 0, 0}, {0, 1, -1}, {least, 1, greatest}, {greatest, -1, least}, {0, least, least}, {least, least, 0}, {least, greatest, 1}, {greatest, least, -1}} {
		holdArith(t, api.OpSub, c[0], c[1], c[2])
	}
	for _, c := range [][3]int64{{6, 7, 42}, {-6, 7, -42}, {6, -7, -42}, {-6, -7, 42}, {0, least, 0}, {1, least, least}, {-1, least, least}, {least, 2, 0}, {greatest, 2, -2}, {greatest, greatest, 1}, {least, greatest, least}, {1 << 32, 1 << 32, 0}} {
		holdArith(t, api.OpMul, c[0], c[1], c[2])
	}
}

// P15.1: quotients, with each sign of both numbers, cut towards 0; the least number by -1 is the least number.
func TestQuotients(t *testing.T) {
	for _, c := range [][3]int64{{42, 7, 6}, {7, 2, 3}, {-7, 2, -3}, {7, -2, -3}, {-7, -2, 3}, {1, 2, 0}, {-1, 2, 0}, {0, 5, 0}, {0, -5, 0}, {0, least, 0}, {least, -1, least}, {least, 1, least}, {greatest, -1, least + 1}, {greatest, 1, greatest}, {least, least, 1}, {greatest, least, 0}, {least, greatest, -1}, {least, 2, -1 << 62}} {
		holdArith(t, api.OpDiv, c[0], c[1], c[2])
	}
}

// P15.1: by 0 there is no quotient, whatever is to be divided, be the words pointers or not.
func TestDivByZero(t *testing.T) {
	for _, a := range words() {
		for _, b := range words() {
			if b.N == 0 {
				holdNone(t, api.OpDiv, a, b)
			}
		}
		holdNone(t, api.OpDiv, a, word(0, 0, 0))
		holdNone(t, api.OpDiv, a, word(0, 3, 2))
	}
}

// P15.1: all four, of each pair of words of all kinds; the numbers alone count.
func TestArith(t *testing.T) {
	for _, a := range words() {
		for _, b := range words() {
			for op := 4; op <= 7; op++ {
				hold(t, wrongArith(op, a, b))
			}
		}
	}
}

// P15.1: the four are those of package api.
func TestArithOps(t *testing.T) {
	a, b := tag.To(6, 3), tag.Plain(-4)
	for _, c := range []struct {
		op   int
		want int64
	}{{api.OpAdd, 2}, {api.OpSub, 10}, {api.OpMul, -24}, {api.OpDiv, -1}} {
		if got, ok := tag.Arith(c.op, a, b); got != word(c.want, 0, 0) || !ok {
			t.Errorf("Arith(%d) = %+v, %v, want %d", c.op, got, ok, c.want)
		}
	}
}

// P15.1: of another op there is nothing, whatever the words are.
func TestOtherOps(t *testing.T) {
	l := []api.Word{word(0, 0, 0), word(1, 0, 0), word(5, 0, 0), word(least, 0, 0), word(greatest, 0, 0), word(2, 2, 1), word(2, 2, -1), word(mostInt, mostInt, mostInt)}
	for _, op := range otherOps() {
		for _, a := range append(l, foreign...) {
			for _, b := range l {
				holdNone(t, op, a, b)
			}
		}
	}
	for op := -3000; op <= 3000; op++ {
		hold(t, wrongArith(op, tag.To(6, 1), tag.Plain(3)))
	}
}

// P15.2: what is reckoned has neither cell nor life, whatever came in; so that of a pointer and 0 there is no pointer.
func TestReckonedIsPlain(t *testing.T) {
	for _, a := range words() {
		for _, b := range words() {
			for op := 4; op <= 7; op++ {
				got, _ := tag.Arith(op, a, b)
				if got.Cell != 0 || got.Gen != 0 || tag.Is(got) || !tag.Alike(got, tag.Plain(got.N)) {
					t.Errorf("Arith(%d, %+v, %+v) = %+v", op, a, b, got)
				}
			}
		}
	}
	for _, cell := range cells {
		p := tag.To(cell, 1)
		for _, c := range []struct {
			op int
			n  int64
		}{{api.OpAdd, 0}, {api.OpSub, 0}, {api.OpMul, 1}, {api.OpDiv, 1}} {
			got, ok := tag.Arith(c.op, p, tag.Plain(c.n))
			if !ok || tag.Is(got) || !tag.Equal(got, p) || tag.Alike(got, p) {
				t.Errorf("Arith(%d, %+v, %d) = %+v, %v", c.op, p, c.n, got, ok)
			}
		}
	}
}

// P1, P15.1, P15.2: all calls, of any numbers, by chance.
func TestByChance(t *testing.T) {
	c := chance(15)
	for range 100000 {
		a, b := c.word(), c.word()
		if c.next(4) == 0 {
			b.N = a.N
		}
		if c.next(4) == 0 {
			b.Cell = a.Cell
		}
		if c.next(4) == 0 {
			b.Gen = a.Gen
		}
		hold(t, wrongMade(a.N, a.Cell, a.Gen)+wrongPair(a, b)+wrongPair(a, a))
		hold(t, wrongArith(c.next(26), a, b)+wrongArith(4+c.next(4), a, b)+wrongArith(int(c.number()), a, b))
		if t.Failed() {
			return
		}
	}
}

// P1, P15.1: all calls, of all kinds of numbers, cells and lives together.
func TestMade(t *testing.T) {
	for _, n := range numbers {
		for _, gen := range lives {
			for _, cell := range append(noCells, cells...) {
				hold(t, wrongMade(n, cell, gen))
			}
		}
	}
}

// P3: what a call answers hangs on its arguments alone, whatever came ahead of it, and though many goroutines call.
func TestTogether(t *testing.T) {
	var wait sync.WaitGroup
	told := make([]string, 8)
	for i := range told {
		wait.Go(func() {
			c := chance(100 + i)
			for range 5000 {
				a, b := c.word(), c.word()
				said := wrongMade(a.N, a.Cell, a.Gen) + wrongPair(a, b) + wrongArith(c.next(9), a, b)
				if said != "" {
					told[i] = said
				}
			}
		})
	}
	wait.Wait()
	for _, said := range told {
		hold(t, said)
	}
}
