package place_test

import (
	"fmt"
	"math"
	"reflect"
	"slices"
	"sync"
	"testing"
	"unsafe"

	"warrener/api"
	"warrener/place"
)

const (
	least = math.MinInt
	most  = math.MaxInt

	// The kinds, as package api has them.
	root  = 1
	head  = 2
	field = 3
	heap  = 4
	slot  = 5
	epoch = 6
	mark  = 7
	count = 8

	// The limits, as the document's table has them.
	mostRoots   = 4
	mostCells   = 6
	mostThreads = 4
	mostSlots   = 2
)

// kinds are the eight.
var kinds = []int{root, head, field, heap, slot, epoch, mark, count}

// others are no kinds of places; some are one of the eight when they are cut to fewer bits.
var others = []int{0, -1, 9, 10, -2, -8, 16, 255, 256, 257, 260, 264, -256 + 6, 1<<16 + 3, 1 << 31, 1<<32 + 1, 1<<32 + 4, 1<<32 + 8, -1<<32 + 2, -1<<32 + 5, -1<<63 + 7, most - 1, most, least, least + 1, least + 6}

// numbers are what I and J may be; some are a place's when they are cut to fewer bits.
var numbers = []int{0, 1, 2, 3, 4, 5, 6, 7, 8, -1, -2, -6, 255, 256, 257, 1<<16 + 1, 1 << 31, 1<<32 - 1, 1 << 32, 1<<32 + 1, 1<<32 + 3, -1 << 32, -1<<32 + 1, most - 1, most, least, least + 1, least + 2}

// amounts are how many roots, cells and slots a program may tell; some are few when they are cut to fewer bits.
var amounts = []int{0, 1, 2, 3, 4, 5, 6, 7, 8, -1, -2, -4, 255, 256, 257, 1 << 31, 1 << 32, 1<<32 + 1, 1<<32 + 2, -1 << 32, -1<<32 + 3, most - 1, most, least, least + 1, least + 3}

// lengths are of a program's code.
var lengths = []int{0, 1, 2, 3, 4, 5, 6, 7, 8, 9, 63, 64, 65, 255, 256, 257, 1<<16 + 1}

// program is of so many roots, cells and slots, and of so many threads without an instruction.
func program(roots int, cells int, slots int, threads int) api.Prog {
	return api.Prog{Roots: roots, Cells: cells, Slots: slots, Code: make([][]api.Instr, threads)}
}

// some are programs of all amounts, at first of one thing after the other, beside none, a few and as many as there may be of the rest.
func some() []api.Prog {
	l := []api.Prog{{}, {Roots: 1, Cells: 1, Slots: 1}, {Roots: 4, Cells: 6, Slots: 2, Code: [][]api.Instr{}}}
	for _, rest := range []api.Prog{program(0, 0, 0, 0), program(2, 3, 1, 2), program(4, 6, 2, 4), program(most, most, most, 7), program(least, least, least, 1)} {
		threads := len(rest.Code)
		for _, n := range amounts {
			l = append(l, program(n, rest.Cells, rest.Slots, threads), program(rest.Roots, n, rest.Slots, threads), program(rest.Roots, rest.Cells, n, threads))
		}
		for _, n := range lengths {
			l = append(l, program(rest.Roots, rest.Cells, rest.Slots, n))
		}
	}
	return l
}

// counted is how many of that many count.
func counted(n int, limit int) int {
	return max(0, min(n, limit))
}

// allWants are the program's places, as the page tells them, one kind behind the other.
func allWants(p api.Prog) []api.Place {
	var l []api.Place
	for i := 0; i < counted(p.Roots, mostRoots); i++ {
		l = append(l, api.Place{Kind: root, I: i})
	}
	for cell := 1; cell <= counted(p.Cells, mostCells); cell++ {
		l = append(l, api.Place{Kind: head, I: cell})
	}
	for cell := 1; cell <= counted(p.Cells, mostCells); cell++ {
		l = append(l, api.Place{Kind: field, I: cell, J: 0}, api.Place{Kind: field, I: cell, J: 1})
	}
	l = append(l, api.Place{Kind: heap})
	threads := counted(len(p.Code), mostThreads)
	for thread := 0; thread < threads; thread++ {
		for i := 0; i < counted(p.Slots, mostSlots); i++ {
			l = append(l, api.Place{Kind: slot, I: thread, J: i})
		}
	}
	l = append(l, api.Place{Kind: epoch})
	for thread := 0; thread < threads; thread++ {
		l = append(l, api.Place{Kind: mark, I: thread})
	}
	for thread := 0; thread < threads; thread++ {
		l = append(l, api.Place{Kind: count, I: thread})
	}
	return l
}

// isWants is what the page says of a place, kind by kind.
func isWants(x api.Place, p api.Prog) bool {
	thread := 0 <= x.I && x.I < len(p.Code) && x.I <= 3
	cell := 1 <= x.I && x.I <= p.Cells && x.I <= 6
	switch x.Kind {
	case 1:
		return 0 <= x.I && x.I < p.Roots && x.I <= 3 && x.J == 0
	case 2:
		return cell && x.J == 0
	case 3:
		return cell && (x.J == 0 || x.J == 1)
	case 4, 6:
		return x.I == 0 && x.J == 0
	case 5:
		return thread && (x.J == 0 && p.Slots >= 1 || x.J == 1 && p.Slots >= 2)
	case 7, 8:
		return thread && x.J == 0
	}
	return false
}

// lessWants is the order that the page tells, part by part.
func lessWants(a api.Place, b api.Place) bool {
	if a.Kind != b.Kind {
		return a.Kind < b.Kind
	}
	if a.I != b.I {
		return a.I < b.I
	}
	return a.J < b.J
}

// textWants is the page's text.
func textWants(x api.Place) string {
	switch x.Kind {
	case 1:
		return fmt.Sprintf("root %d", x.I)
	case 2:
		return fmt.Sprintf("head %d", x.I)
	case 3:
		return fmt.Sprintf("field %d %d", x.I, x.J)
	case 4:
		return "heap"
	case 5:
		return fmt.Sprintf("slot %d %d", x.I, x.J)
	case 6:
		return "epoch"
	case 7:
		return fmt.Sprintf("mark %d", x.I)
	case 8:
		return fmt.Sprintf("count %d", x.I)
	}
	return ""
}

func holdIs(t *testing.T, x api.Place, p api.Prog, want bool) {
	t.Helper()
	if got := place.Is(x, p); got != want {
		t.Fatalf("Is(%v, %v) = %v, want %v", x, told(p), got, want)
	}
}

func holdLess(t *testing.T, a api.Place, b api.Place, want bool) {
	t.Helper()
	if got := place.Less(a, b); got != want {
		t.Fatalf("Less(%v, %v) = %v, want %v", a, b, got, want)
	}
}

// holdAhead fails if not just the first one stands ahead of the other.
func holdAhead(t *testing.T, a api.Place, b api.Place) {
	t.Helper()
	holdLess(t, a, b, true)
	holdLess(t, b, a, false)
}

func holdAll(t *testing.T, p api.Prog, want []api.Place) {
	t.Helper()
	if got := place.All(p); !slices.Equal(got, want) {
		t.Fatalf("All(%v) = %v, want %v", told(p), got, want)
	}
}

func holdText(t *testing.T, x api.Place, want string) {
	t.Helper()
	if got := place.Text(x); got != want {
		t.Fatalf("Text(%v) = %q, want %q", x, got, want)
	}
}

func holdHolds(t *testing.T, x api.Place, want bool) {
	t.Helper()
	if got := place.Holds(x); got != want {
		t.Fatalf("Holds(%v) = %v, want %v", x, got, want)
	}
}

// told is what is to be known of a program.
func told(p api.Prog) string {
	return fmt.Sprintf("roots %d cells %d slots %d threads %d", p.Roots, p.Cells, p.Slots, len(p.Code))
}

// chance is a row of numbers without a short beat.
type chance uint64

func (c *chance) next(below int) int {
	*c = *c*6364136223846793005 + 1442695040888963407
	return int(uint64(*c) >> 33 % uint64(below))
}

// The chapter's example.
func TestExample(t *testing.T) {
	holdText(t, api.Place{Kind: api.PlField, I: 2, J: 1}, "field 2 1")
}

// P18.1: of each kind, the places of one program, and those beside them.
func TestIs(t *testing.T) {
	p := program(2, 3, 1, 2)
	for _, x := range []api.Place{
		{Kind: root}, {Kind: root, I: 1},
		{Kind: head, I: 1}, {Kind: head, I: 2}, {Kind: head, I: 3},
		{Kind: field, I: 1}, {Kind: field, I: 1, J: 1}, {Kind: field, I: 3}, {Kind: field, I: 3, J: 1},
		{Kind: heap}, {Kind: epoch},
		{Kind: slot}, {Kind: slot, I: 1},
		{Kind: mark}, {Kind: mark, I: 1}, {Kind: count}, {Kind: count, I: 1},
	} {
		holdIs(t, x, p, true)
	}
	for _, x := range []api.Place{
		{}, {Kind: root, I: -1}, {Kind: root, I: 2}, {Kind: root, J: 1}, {Kind: root, I: 1, J: -1},
		{Kind: head}, {Kind: head, I: 4}, {Kind: head, I: 1, J: 1}, {Kind: head, I: -1},
		{Kind: field}, {Kind: field, J: 1}, {Kind: field, I: 4}, {Kind: field, I: 1, J: 2}, {Kind: field, I: 1, J: -1},
		{Kind: heap, I: 1}, {Kind: heap, J: 1}, {Kind: heap, I: -1}, {Kind: heap, J: -1},
		{Kind: epoch, I: 1}, {Kind: epoch, J: 1}, {Kind: epoch, I: -1}, {Kind: epoch, J: -1},
		{Kind: slot, I: 2}, {Kind: slot, I: -1}, {Kind: slot, J: 1}, {Kind: slot, J: -1},
		{Kind: mark, I: 2}, {Kind: mark, I: -1}, {Kind: mark, J: 1}, {Kind: mark, I: 1, J: -1},
		{Kind: count, I: 2}, {Kind: count, I: -1}, {Kind: count, J: 1}, {Kind: count, I: 1, J: -1},
	} {
		holdIs(t, x, p, false)
	}
}

// P18.1: whatever a place's parts and the program are, Is says what the page does.
func TestIsAll(t *testing.T) {
	for _, p := range some() {
		for _, kind := range kinds {
			for _, i := range numbers {
				for _, j := range numbers {
					x := api.Place{Kind: kind, I: i, J: j}
					holdIs(t, x, p, isWants(x, p))
				}
			}
		}
	}
}

// P18.1: nothing of another kind is a program's place.
func TestIsOthers(t *testing.T) {
	for _, p := range []api.Prog{{}, program(1, 1, 1, 1), program(4, 6, 2, 4), program(most, most, most, 9)} {
		for _, kind := range others {
			for _, i := range numbers {
				for _, j := range numbers {
					holdIs(t, api.Place{Kind: kind, I: i, J: j}, p, false)
				}
			}
		}
	}
}

// P18.1: roots, threads and slots are counted from 0, cells from 1, up to the last that the program has; no more than there may be count.
func TestIsBounds(t *testing.T) {
	for _, n := range amounts {
		for _, at := range numbers {
			holdIs(t, api.Place{Kind: root, I: at}, program(n, 0, 0, 0), 0 <= at && at < counted(n, mostRoots))
			for j := range 2 {
				holdIs(t, api.Place{Kind: field, I: at, J: j}, program(0, n, 0, 0), 1 <= at && at <= counted(n, mostCells))
			}
			holdIs(t, api.Place{Kind: head, I: at}, program(0, n, 0, 0), 1 <= at && at <= counted(n, mostCells))
			for thread := range 3 {
				holdIs(t, api.Place{Kind: slot, I: thread, J: at}, program(0, 0, n, 3), 0 <= at && at < counted(n, mostSlots))
			}
			holdIs(t, api.Place{Kind: field, I: 1, J: at}, program(0, 1, n, 1), at == 0 || at == 1)
		}
	}
	for _, n := range lengths {
		for _, at := range numbers {
			is := 0 <= at && at < counted(n, mostThreads)
			for _, kind := range []int{slot, mark, count} {
				holdIs(t, api.Place{Kind: kind, I: at}, program(0, 0, 1, n), is)
			}
			holdIs(t, api.Place{Kind: slot, I: at, J: 1}, program(0, 0, 2, n), is)
			holdIs(t, api.Place{Kind: slot, I: at}, program(4, 6, 0, n), false)
		}
	}
}

// P18.1: programs whose code is nil, or without a thread, have no slot, mark or count; of each program the heap and the epoch are places.
func TestIsNoThreads(t *testing.T) {
	for _, code := range [][][]api.Instr{nil, {}} {
		for _, n := range amounts {
			p := api.Prog{Roots: n, Cells: n, Slots: n, Code: code}
			for _, kind := range []int{slot, mark, count} {
				for _, i := range numbers {
					holdIs(t, api.Place{Kind: kind, I: i}, p, false)
				}
			}
			holdIs(t, api.Place{Kind: heap}, p, true)
			holdIs(t, api.Place{Kind: epoch}, p, true)
		}
	}
}

// P18.1: what the threads' instructions are, and how many, changes nothing.
func TestIsCode(t *testing.T) {
	strange := api.Instr{Op: 26, A: -1, B: most, C: least, N: math.MinInt64}
	for _, code := range [][][]api.Instr{{nil, {}}, {{strange}, nil}, {make([]api.Instr, 16), make([]api.Instr, 17)}, {{}, make([]api.Instr, 1<<12)}} {
		p := api.Prog{Roots: 2, Cells: 3, Slots: 1, Code: code}
		holdAll(t, p, allWants(program(2, 3, 1, 2)))
		for thread := -1; thread < 4; thread++ {
			holdIs(t, api.Place{Kind: mark, I: thread}, p, thread == 0 || thread == 1)
		}
	}
}

// P18.1: places that differ by one part rise by it, whatever the two others are.
func TestLessOnePart(t *testing.T) {
	for _, a := range numbers {
		for _, b := range numbers {
			for _, c := range numbers {
				for _, d := range numbers {
					holdLess(t, api.Place{Kind: a, I: c, J: d}, api.Place{Kind: b, I: c, J: d}, a < b)
					holdLess(t, api.Place{Kind: c, I: a, J: d}, api.Place{Kind: c, I: b, J: d}, a < b)
					holdLess(t, api.Place{Kind: c, I: d, J: a}, api.Place{Kind: c, I: d, J: b}, a < b)
				}
			}
		}
	}
}

// P18.1: the kind comes first, then I, then J, though the later parts go the other way.
func TestLessOpposite(t *testing.T) {
	rising := slices.Sorted(slices.Values(numbers))
	for k, low := range rising {
		for _, high := range rising[k+1:] {
			for _, i := range rising {
				for _, j := range rising {
					holdAhead(t, api.Place{Kind: low, I: i, J: j}, api.Place{Kind: high, I: j, J: i})
				}
				holdAhead(t, api.Place{Kind: i, I: low, J: high}, api.Place{Kind: i, I: high, J: low})
				holdAhead(t, api.Place{Kind: i, I: low, J: most}, api.Place{Kind: i, I: high, J: least})
			}
			holdAhead(t, api.Place{Kind: low, I: high, J: high}, api.Place{Kind: high, I: low, J: low})
			holdAhead(t, api.Place{Kind: low, I: high, J: low}, api.Place{Kind: high, I: low, J: high})
			holdAhead(t, api.Place{Kind: low, I: low, J: high}, api.Place{Kind: high, I: high, J: low})
			holdAhead(t, api.Place{Kind: low, I: most, J: most}, api.Place{Kind: high, I: least, J: least})
		}
	}
}

// P18.1: no place stands ahead of itself.
func TestLessSelf(t *testing.T) {
	for _, kind := range append(slices.Clone(others), kinds...) {
		for _, i := range numbers {
			for _, j := range numbers {
				x := api.Place{Kind: kind, I: i, J: j}
				holdLess(t, x, x, false)
			}
		}
	}
}

// P18.1: all triples of a few numbers, the least and the greatest among them, against each other.
func TestLessAll(t *testing.T) {
	var l []api.Place
	for _, kind := range []int{least, -1, 0, 1, 1 << 32, most} {
		for _, i := range []int{least, -1, 0, 1, 1 << 32, most} {
			for _, j := range []int{least, -1, 0, 1, 1 << 32, most} {
				l = append(l, api.Place{Kind: kind, I: i, J: j})
			}
		}
	}
	for m, a := range l {
		for n, b := range l {
			holdLess(t, a, b, m < n)
		}
	}
}

// P18.1: the places of one program, in their order.
func TestAll(t *testing.T) {
	holdAll(t, program(1, 2, 1, 2), []api.Place{
		{Kind: root},
		{Kind: head, I: 1}, {Kind: head, I: 2},
		{Kind: field, I: 1, J: 0}, {Kind: field, I: 1, J: 1}, {Kind: field, I: 2, J: 0}, {Kind: field, I: 2, J: 1},
		{Kind: heap},
		{Kind: slot, I: 0}, {Kind: slot, I: 1},
		{Kind: epoch},
		{Kind: mark, I: 0}, {Kind: mark, I: 1},
		{Kind: count, I: 0}, {Kind: count, I: 1},
	})
	holdAll(t, api.Prog{}, []api.Place{{Kind: heap}, {Kind: epoch}})
	holdAll(t, program(-1, -1, -1, 0), []api.Place{{Kind: heap}, {Kind: epoch}})
	holdAll(t, program(0, 0, 2, 1), []api.Place{{Kind: heap}, {Kind: slot}, {Kind: slot, J: 1}, {Kind: epoch}, {Kind: mark}, {Kind: count}})
}

// holdProgram fails if All does not tell just the places that the page does, rising, each once, of which Is says that they are.
func holdProgram(t *testing.T, p api.Prog) {
	t.Helper()
	l := place.All(p)
	cells, threads := counted(p.Cells, mostCells), counted(len(p.Code), mostThreads)
	if want := counted(p.Roots, mostRoots) + 3*cells + 1 + threads*counted(p.Slots, mostSlots) + 1 + 2*threads; len(l) != want {
		t.Fatalf("All(%v) are %d, want %d: %v", told(p), len(l), want, l)
	}
	for i, x := range l {
		holdIs(t, x, p, true)
		if i > 0 {
			holdAhead(t, l[i-1], x)
		}
	}
	holdAll(t, p, allWants(p))
}

// P18.1: of each program: how many there are, that they rise, each once, and what Is says of them.
func TestAllPrograms(t *testing.T) {
	for _, p := range some() {
		holdProgram(t, p)
	}
	for roots := -1; roots <= mostRoots+1; roots++ {
		for cells := -1; cells <= mostCells+1; cells++ {
			for slots := -1; slots <= mostSlots+1; slots++ {
				for threads := range mostThreads + 2 {
					holdProgram(t, program(roots, cells, slots, threads))
				}
			}
		}
	}
}

// P18.1: Is says of just those that All tells that they are the program's.
func TestAllIs(t *testing.T) {
	for roots := range mostRoots + 1 {
		for cells := range mostCells + 1 {
			for slots := range mostSlots + 1 {
				for threads := range mostThreads + 1 {
					p := program(roots, cells, slots, threads)
					l := place.All(p)
					for kind := -1; kind <= 10; kind++ {
						for i := -1; i <= 8; i++ {
							for j := -1; j <= 3; j++ {
								x := api.Place{Kind: kind, I: i, J: j}
								holdIs(t, x, p, slices.Contains(l, x))
							}
						}
					}
				}
			}
		}
	}
}

// P18.1: the text of each kind, with just those of I and J that are told of it.
func TestText(t *testing.T) {
	for _, i := range numbers {
		for _, j := range numbers {
			for kind := -1; kind <= 9; kind++ {
				x := api.Place{Kind: kind, I: i, J: j}
				holdText(t, x, textWants(x))
			}
		}
	}
	holdText(t, api.Place{Kind: root, I: 3, J: 7}, "root 3")
	holdText(t, api.Place{Kind: head, I: -1}, "head -1")
	holdText(t, api.Place{Kind: field, I: least, J: most}, "field -9223372036854775808 9223372036854775807")
	holdText(t, api.Place{Kind: heap, I: 1, J: 2}, "heap")
	holdText(t, api.Place{Kind: slot}, "slot 0 0")
	holdText(t, api.Place{Kind: epoch, I: -5, J: 2}, "epoch")
	holdText(t, api.Place{Kind: mark, I: 10, J: -1}, "mark 10")
	holdText(t, api.Place{Kind: count, I: most}, "count 9223372036854775807")
}

// P18.1: other kinds have no text.
func TestTextOthers(t *testing.T) {
	for _, kind := range others {
		for _, i := range numbers {
			holdText(t, api.Place{Kind: kind, I: i, J: i}, "")
			holdText(t, api.Place{Kind: kind, I: i}, "")
		}
	}
}

// P18.1: the texts of a program's places are all different.
func TestTextApart(t *testing.T) {
	seen := map[string]api.Place{}
	for _, x := range place.All(program(4, 6, 2, 4)) {
		s := place.Text(x)
		if other, ok := seen[s]; ok || s == "" {
			t.Fatalf("Text(%v) = %q, as of %v", x, s, other)
		}
		seen[s] = x
	}
}

// P18.1: a place holds a word if its kind is one of the eight, but for head and heap; I and J are not asked.
func TestHolds(t *testing.T) {
	for _, i := range numbers {
		for _, j := range numbers {
			for _, kind := range []int{root, field, slot, epoch, mark, count} {
				holdHolds(t, api.Place{Kind: kind, I: i, J: j}, true)
			}
			for _, kind := range append([]int{head, heap}, others...) {
				holdHolds(t, api.Place{Kind: kind, I: i, J: j}, false)
			}
		}
	}
}

// numberByChance is most often a small one.
func numberByChance(c *chance, l []int) int {
	if c.next(6) == 0 {
		return l[c.next(len(l))]
	}
	return c.next(7)
}

func placeByChance(c *chance) api.Place {
	x := api.Place{Kind: 1 + c.next(8), I: numberByChance(c, numbers)}
	switch c.next(8) {
	case 0:
		x.Kind = others[c.next(len(others))]
	case 1:
		x.J = numberByChance(c, numbers)
	case 2, 3, 4:
		x.J = 1
	case 5:
		x.I = 0
	}
	return x
}

func programByChance(c *chance) api.Prog {
	p := api.Prog{Roots: numberByChance(c, amounts), Cells: numberByChance(c, amounts), Slots: numberByChance(c, amounts)}
	for range c.next(7) {
		p.Code = append(p.Code, make([]api.Instr, c.next(3)))
	}
	return p
}

// P18.1: places and programs by chance, held against what the page's words say.
func TestChance(t *testing.T) {
	c := chance(18)
	seen := map[bool]int{}
	for range 40000 {
		x, y, p := placeByChance(&c), placeByChance(&c), programByChance(&c)
		is := isWants(x, p)
		seen[is]++
		holdIs(t, x, p, is)
		holdIs(t, x, p, slices.Contains(allWants(p), x))
		holdLess(t, x, y, lessWants(x, y))
		holdLess(t, y, x, lessWants(y, x))
		holdText(t, x, textWants(x))
		holdHolds(t, x, slices.Contains([]int{root, field, slot, epoch, mark, count}, x.Kind))
		holdProgram(t, p)
	}
	if seen[true] < 4000 || seen[false] < 4000 {
		t.Fatalf("places of the program's, and none: %v", seen)
	}
}

// P1: programs of great numbers of threads, and of long ones.
func TestGreat(t *testing.T) {
	many := program(most, most, most, 1<<20)
	holdProgram(t, many)
	holdIs(t, api.Place{Kind: mark, I: 4}, many, false)
	holdIs(t, api.Place{Kind: mark, I: 1<<20 - 1}, many, false)
	long := api.Prog{Roots: least, Cells: most, Slots: 1 << 32, Code: [][]api.Instr{make([]api.Instr, 1<<20)}}
	holdProgram(t, long)
}

// codeOf is of three threads, with room behind them, and behind each one's instructions.
func codeOf(beyond api.Instr) [][]api.Instr {
	code := make([][]api.Instr, 4)
	for i := range code {
		code[i] = []api.Instr{{Op: i + 1, A: 2, B: 3, C: 4, N: 5}, beyond}[:1]
	}
	return code[:3]
}

// P2: programs that came in are as they were, behind their lists' ends, too.
func TestProgramsStay(t *testing.T) {
	beyond := api.Instr{Op: 99, A: 98, B: 97, C: 96, N: 95}
	for _, n := range amounts {
		p := api.Prog{Roots: n, Cells: n, Slots: n, Code: codeOf(beyond)}
		for _, kind := range append(slices.Clone(kinds), others...) {
			place.Is(api.Place{Kind: kind, I: 1, J: 1}, p)
		}
		place.All(p)
		want := api.Prog{Roots: n, Cells: n, Slots: n, Code: codeOf(beyond)}
		if !reflect.DeepEqual(p, want) || !reflect.DeepEqual(p.Code[:4], want.Code[:4]) {
			t.Fatalf("of %v was made %v", want, p)
		}
		for i := range 4 {
			if p.Code[:4][i][:2][1] != beyond {
				t.Fatalf("behind thread %d stands %v", i, p.Code[:4][i][:2][1])
			}
		}
	}
}

// P2: answers are new memory each time: who turns one turns no other, nor what later calls tell.
func TestAnswers(t *testing.T) {
	p := program(2, 2, 1, 2)
	one, other := place.All(p), place.All(p)
	for i := range one {
		one[i] = api.Place{Kind: 9, I: 9, J: 9}
	}
	one = append(one[:0], slices.Repeat([]api.Place{{Kind: 10}}, cap(one))...)
	if want := allWants(p); !slices.Equal(other, want) {
		t.Fatalf("an answer was turned: %v, want %v", other, want)
	}
	holdProgram(t, p)
	p.Roots, p.Cells, p.Slots, p.Code = 0, 0, 0, nil
	if want := allWants(program(2, 2, 1, 2)); !slices.Equal(other, want) {
		t.Fatalf("an answer keeps what came in: %v, want %v", other, want)
	}
	holdProgram(t, p)
}

// P2: no two texts share memory, though they be the same.
func TestTextsApart(t *testing.T) {
	var l []string
	for range 3 {
		for _, kind := range kinds {
			l = append(l, place.Text(api.Place{Kind: kind, I: 1, J: 1}))
		}
	}
	for i, a := range l {
		for j, b := range l[:i] {
			if unsafe.StringData(a) == unsafe.StringData(b) {
				t.Fatalf("texts %d (%s) and %d (%s) share memory", i, a, j, b)
			}
		}
	}
}

// P3: calls tell the same whatever runs beside them; one program may be asked by many.
func TestBeside(t *testing.T) {
	p := program(3, 4, 2, 3)
	want := allWants(p)
	var wait sync.WaitGroup
	for i := range 16 {
		wait.Go(func() {
			own := chance(i)
			for range 200 {
				x, y, q := placeByChance(&own), placeByChance(&own), programByChance(&own)
				if !slices.Equal(place.All(p), want) || !slices.Equal(place.All(q), allWants(q)) || place.Is(x, p) != isWants(x, p) || place.Is(x, q) != isWants(x, q) || place.Less(x, y) != lessWants(x, y) || place.Text(x) != textWants(x) {
					t.Errorf("beside others: %v, %v, %v", x, y, told(q))
					return
				}
			}
		})
	}
	wait.Wait()
}
