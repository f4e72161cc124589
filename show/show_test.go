package show_test

import (
	"fmt"
	"math"
	"math/big"
	"slices"
	"strings"
	"sync"
	"testing"
	"unsafe"

	"warrener/api"
	"warrener/show"
)

// page is what the document says of each instruction, by its number: its name, and the letters of A, B, C and N.
var page = [26][2]string{
	1: {"halt", "----"}, 2: {"set", "r--n"}, 3: {"copy", "rr--"},
	4: {"add", "rrr-"}, 5: {"sub", "rrr-"}, 6: {"mul", "rrr-"}, 7: {"div", "rrr-"},
	8: {"jump", "---t"}, 9: {"zero", "r--t"}, 10: {"same", "rr-t"},
	11: {"look", "rg--"}, 12: {"put", "gr--"}, 13: {"swap", "rrrg"},
	14: {"load", "rr-f"}, 15: {"store", "rr-f"}, 16: {"cas", "rrrf"}, 17: {"fence", "----"},
	18: {"new", "r---"}, 19: {"free", "r---"}, 20: {"retire", "r---"},
	21: {"guard", "r--s"}, 22: {"clear", "---s"}, 23: {"enter", "----"}, 24: {"leave", "----"}, 25: {"quiet", "----"},
}

// ends are numbers about the bounds of all widths, and those whose decimals get a digit more.
var ends = slices.Concat(
	[]int64{0, 1, -1, 2, 3, 4, 5, 7, 9, 10, -9, -10, 11, 15, 16, 17, 42, 99, 100, -99, -100, 101, 120, 999, 1000, 1001, 10000, 102030},
	[]int64{127, 128, -127, -128, -129, 255, 256, 257, -255, -256, 32767, 32768, -32768, -32769, 65535, 65536},
	[]int64{math.MaxInt32, math.MaxInt32 + 1, math.MinInt32, math.MinInt32 - 1, math.MaxUint32, math.MaxUint32 + 1, 1<<53 + 1, -(1<<53 + 1)},
	[]int64{1e15, 1e16, 1e17, 1e18, 1e18 - 1, -1e18, 9e18, math.MaxInt64 - 1, math.MaxInt64, math.MinInt64, math.MinInt64 + 1},
)

// noOps are numbers that are no instruction's.
var noOps = func() []int {
	l := []int{0, -1, 26, 27, -2, -16, -25, 31, 32, 33, 64, 83, 127, 128, 255, 256, math.MinInt, math.MinInt + 1, math.MinInt + 16, math.MaxInt, math.MaxInt - 1}
	for op := 1; op <= 25; op++ {
		for _, w := range []int{5, 6, 8, 16, 31, 32, 62, 63} {
			l = append(l, op+1<<w)
		}
		l = append(l, -op)
	}
	return l
}()

var (
	halt = api.Instr{Op: api.OpHalt}
	none = api.Instr{Op: 26}
	off  = api.Instr{Op: api.OpNew, A: 4}
)

// halts is code of so many instructions that may be everywhere.
func halts(many int) []api.Instr {
	return slices.Repeat([]api.Instr{halt}, many)
}

// threads is a program of nothing but code.
func threads(l ...[]api.Instr) api.Prog {
	return api.Prog{Code: l}
}

// greatest is a program that has as much of all as there may be, no two instructions of which are one.
func greatest() api.Prog {
	p := api.Prog{Roots: 4, Cells: 6, Slots: 2}
	for i := range 4 {
		var code []api.Instr
		for j := range 16 {
			code = append(code, api.Instr{Op: api.OpSet, A: i, N: math.MinInt64 + int64(j)})
		}
		p.Code = append(p.Code, code)
	}
	p.Code[0][0] = api.Instr{Op: api.OpJump, N: 16}
	p.Code[1][1] = api.Instr{Op: api.OpSwap, A: 1, B: 2, C: 3, N: 3}
	p.Code[2][15] = api.Instr{Op: api.OpGuard, A: 3, N: 1}
	p.Code[3][15] = api.Instr{Op: api.OpCas, A: 3, B: 3, C: 3, N: 1}
	return p
}

// some are programs that may be, the least and the greatest among them.
func some() []api.Prog {
	return []api.Prog{
		threads(nil),
		threads([]api.Instr{}),
		threads(halts(1)),
		threads(nil, []api.Instr{}, nil, nil),
		threads(halts(16), nil, halts(3)),
		{Roots: 4, Cells: 6, Slots: 2, Code: [][]api.Instr{nil}},
		{Roots: 1, Cells: 2, Slots: 1, Code: [][]api.Instr{
			{{Op: api.OpNew}, {Op: api.OpPut}, {Op: api.OpFree}},
			{{Op: api.OpLook, A: 1}, {Op: api.OpGuard, A: 1}, {Op: api.OpLoad, A: 2, B: 1}},
		}},
		greatest(),
	}
}

// wrongs are programs that may not be, each with what is told of it, by each error, and of several the one that is told first.
func wrongs() []struct {
	p    api.Prog
	want api.Errno
} {
	long, five := halts(17), make([][]api.Instr, 5)
	return []struct {
		p    api.Prog
		want api.Errno
	}{
		{api.Prog{}, api.ErrMany},
		{api.Prog{Code: [][]api.Instr{}}, api.ErrMany},
		{api.Prog{Roots: 5, Code: [][]api.Instr{nil}}, api.ErrRange},
		{api.Prog{Roots: -1, Code: [][]api.Instr{nil}}, api.ErrRange},
		{api.Prog{Cells: 7, Code: [][]api.Instr{nil}}, api.ErrRange},
		{api.Prog{Cells: -1, Code: [][]api.Instr{nil}}, api.ErrRange},
		{api.Prog{Slots: 3, Code: [][]api.Instr{nil}}, api.ErrRange},
		{api.Prog{Slots: -1, Code: [][]api.Instr{nil}}, api.ErrRange},
		{threads(nil, nil, nil, nil, nil), api.ErrMany},
		{threads(long), api.ErrMany},
		{threads(nil, halts(40), nil), api.ErrMany},
		{threads(halts(16), halts(16), halts(16), long), api.ErrMany},
		{threads([]api.Instr{none}), api.ErrKind},
		{threads([]api.Instr{{}}), api.ErrKind},
		{threads(halts(16), halts(3), nil, []api.Instr{halt, none, halt}), api.ErrKind},
		{threads([]api.Instr{off}), api.ErrRange},
		{threads(halts(2), []api.Instr{halt, off}), api.ErrRange},
		{threads([]api.Instr{{Op: api.OpHalt, C: 1}}), api.ErrRange},
		{threads([]api.Instr{{Op: api.OpFence, N: -1}}), api.ErrRange},
		{threads([]api.Instr{{Op: api.OpLook}}), api.ErrRange},
		{threads([]api.Instr{{Op: api.OpClear}}), api.ErrRange},
		{threads([]api.Instr{{Op: api.OpJump, N: 2}}, halts(2)), api.ErrRange},

		{api.Prog{Roots: 5}, api.ErrRange},
		{api.Prog{Cells: -1, Code: five}, api.ErrRange},
		{api.Prog{Slots: 3, Code: [][]api.Instr{long}}, api.ErrRange},
		{api.Prog{Roots: -1, Code: [][]api.Instr{{none}}}, api.ErrRange},
		{api.Prog{Roots: math.MinInt, Cells: math.MaxInt, Slots: -1, Code: [][]api.Instr{{none}, long}}, api.ErrRange},
		{threads([]api.Instr{none}, nil, nil, nil, nil), api.ErrMany},
		{threads([]api.Instr{off}, nil, nil, nil, nil), api.ErrMany},
		{threads([]api.Instr{none}, nil, nil, long), api.ErrMany},
		{threads([]api.Instr{off}, long), api.ErrMany},
		{threads(long, []api.Instr{none}), api.ErrMany},
		{threads(slices.Repeat([]api.Instr{none}, 17)), api.ErrMany},
		{threads([]api.Instr{none, off}), api.ErrKind},
		{threads([]api.Instr{off, none}), api.ErrRange},
		{threads([]api.Instr{halt, halt, none}, []api.Instr{off}), api.ErrKind},
		{threads([]api.Instr{halt, halt, off}, []api.Instr{none}), api.ErrRange},
		{threads([]api.Instr{{Op: 0, A: 9, B: -1, C: 8, N: 7}}), api.ErrKind},
	}
}

// operands are those of an instruction, in the order of its letters.
func operands(x api.Instr) [4]int64 {
	return [4]int64{int64(x.A), int64(x.B), int64(x.C), x.N}
}

// with is an instruction of those operands.
func with(op int, l [4]int64) api.Instr {
	return api.Instr{Op: op, A: int(l[0]), B: int(l[1]), C: int(l[2]), N: l[3]}
}

// instrWants is what the page of instructions says of one, in code of so many.
func instrWants(x api.Instr, p api.Prog, code int) api.Errno {
	if x.Op < 1 || x.Op > 25 {
		return api.ErrKind
	}
	most := map[byte]int{'r': 3, 'g': p.Roots - 1, 's': p.Slots - 1, 'f': 1, 't': code, '-': 0}
	for i, n := range operands(x) {
		letter := page[x.Op][1][i]
		if letter != 'n' && (n < 0 || n > int64(most[letter])) {
			return api.ErrRange
		}
	}
	return api.OK
}

// wants is what the page of programs says of one.
func wants(p api.Prog) api.Errno {
	if p.Roots < 0 || p.Roots > 4 || p.Cells < 0 || p.Cells > 6 || p.Slots < 0 || p.Slots > 2 {
		return api.ErrRange
	}
	if len(p.Code) == 0 || len(p.Code) > 4 {
		return api.ErrMany
	}
	first := api.OK
	for _, code := range p.Code {
		if len(code) > 16 {
			return api.ErrMany
		}
		for _, x := range code {
			if first == api.OK {
				first = instrWants(x, p, len(code))
			}
		}
	}
	return first
}

// decimal is a number's, as a number of any size has it.
func decimal(n int64) string {
	return big.NewInt(n).String()
}

// line is what the page says of an instruction's line.
func line(x api.Instr) string {
	s := page[x.Op][0]
	for i, n := range operands(x) {
		if page[x.Op][1][i] != '-' {
			s += " " + decimal(n)
		}
	}
	return s
}

// text is what the page says of a program's text.
func text(p api.Prog) string {
	s := "warrener " + decimal(int64(p.Roots)) + " " + decimal(int64(p.Cells)) + " " + decimal(int64(p.Slots)) + "\n"
	for _, code := range p.Code {
		s += "thread\n"
		for _, x := range code {
			s += line(x) + "\n"
		}
	}
	return s
}

// count is what the page says of how many lines there would be.
func count(p api.Prog) int {
	n := 1
	for _, code := range p.Code {
		n++
		for range code {
			n++
		}
	}
	return n
}

// copied is a program in memory of its own.
func copied(p api.Prog) api.Prog {
	code := slices.Clone(p.Code)
	for i := range code {
		code[i] = slices.Clone(code[i])
	}
	p.Code = code
	return p
}

// same tells whether two programs are one; nil and empty lists are.
func same(p api.Prog, q api.Prog) bool {
	return p.Roots == q.Roots && p.Cells == q.Cells && p.Slots == q.Slots && slices.EqualFunc(p.Code, q.Code, slices.Equal)
}

// chance is a row of numbers without a short beat.
type chance uint64

func (c *chance) next(below int) int {
	*c = *c*6364136223846793005 + 1442695040888963407
	return int(uint64(*c) >> 33 % uint64(below))
}

// number is one of all 64 bits, of any width.
func (c *chance) number() int64 {
	n := int64(c.next(1<<31))<<33 ^ int64(c.next(1<<31))<<11 ^ int64(c.next(1<<11))
	return n >> c.next(64)
}

// instr is an instruction that may be in the program, in code of so many.
func (c *chance) instr(p api.Prog, code int) api.Instr {
	most := map[byte]int{'r': 4, 'g': max(p.Roots, 1), 's': max(p.Slots, 1), 'f': 2, 't': code + 1, '-': 1}
	for {
		op := c.next(25) + 1
		var l [4]int64
		for i := range l {
			if letter := page[op][1][i]; letter == 'n' {
				l[i] = c.number()
			} else {
				l[i] = int64(c.next(most[letter]))
			}
		}
		if x := with(op, l); instrWants(x, p, code) == api.OK {
			return x
		}
	}
}

// prog is a program that may be.
func (c *chance) prog() api.Prog {
	p := api.Prog{Roots: c.next(5), Cells: c.next(7), Slots: c.next(3)}
	for range c.next(4) + 1 {
		code := make([]api.Instr, c.next(17))
		for i := range code {
			code[i] = c.instr(p, len(code))
		}
		p.Code = append(p.Code, code)
	}
	return p
}

// near is mostly as the number is, and else another one.
func (c *chance) near(n int) int {
	switch c.next(60) {
	case 0:
		return int(c.number())
	case 1:
		return n + 1
	case 2:
		return n - 1
	default:
		return n
	}
}

// odd is a program that may or may not be.
func (c *chance) odd() api.Prog {
	p := c.prog()
	p.Roots, p.Cells, p.Slots = c.near(p.Roots), c.near(p.Cells), c.near(p.Slots)
	for c.next(12) == 0 {
		p.Code = append(p.Code, halts(c.next(19)))
	}
	if c.next(25) == 0 {
		p.Code = nil
	}
	for _, code := range p.Code {
		for i := range code {
			if x := &code[i]; c.next(8) == 0 {
				x.Op, x.A, x.B, x.C, x.N = c.near(x.Op), c.near(x.A), c.near(x.B), c.near(x.C), int64(c.near(int(x.N)))
			}
		}
	}
	return p
}

// wrongInstr tells how Instr differs from the page; nothing, if it does not.
func wrongInstr(x api.Instr) string {
	want, why := "", api.ErrKind
	if x.Op >= 1 && x.Op <= 25 {
		want, why = line(x), api.OK
	}
	if s, err := show.Instr(x); s != want || err != why {
		return fmt.Sprintf("Instr(%+v) = %q, %d, want %q, %d", x, s, err, want, why)
	}
	return ""
}

// wrong tells how Prog and Count differ from the page; nothing, if they do not.
func wrong(p api.Prog) string {
	want, why := "", wants(p)
	if why == api.OK {
		want = text(p)
	}
	if s, err := show.Prog(p); s != want || err != why {
		return fmt.Sprintf("Prog(%+v) = %q, %d, want %q, %d", p, s, err, want, why)
	}
	if n := show.Count(p); n != count(p) {
		return fmt.Sprintf("Count(%+v) = %d, want %d", p, n, count(p))
	}
	return ""
}

func holdInstr(t *testing.T, x api.Instr) {
	if told := wrongInstr(x); told != "" {
		t.Helper()
		t.Fatal(told)
	}
}

func hold(t *testing.T, p api.Prog) {
	if told := wrong(p); told != "" {
		t.Helper()
		t.Fatal(told)
	}
}

func holdLine(t *testing.T, x api.Instr, want string) {
	t.Helper()
	if s, err := show.Instr(x); s != want || err != api.OK {
		t.Errorf("Instr(%+v) = %q, %d, want %q", x, s, err, want)
	}
}

func holdText(t *testing.T, p api.Prog, want string) {
	t.Helper()
	if s, err := show.Prog(p); s != want || err != api.OK {
		t.Errorf("Prog(%+v) = %q, %d, want %q", p, s, err, want)
	}
	if n := show.Count(p); n != strings.Count(want, "\n") {
		t.Errorf("Count(%+v) = %d, want %d", p, n, strings.Count(want, "\n"))
	}
}

// P12.1: the chapter's example.
func TestExample(t *testing.T) {
	holdLine(t, api.Instr{Op: api.OpLoad, A: 0, B: 1, N: 0}, "load 0 1 0")
}

// P12.1: the line of each instruction, written out.
func TestLines(t *testing.T) {
	want := []string{
		"halt", "set 1 4", "copy 1 2", "add 1 2 3", "sub 1 2 3", "mul 1 2 3", "div 1 2 3", "jump 4", "zero 1 4", "same 1 2 4",
		"look 1 2", "put 1 2", "swap 1 2 3 4", "load 1 2 4", "store 1 2 4", "cas 1 2 3 4", "fence", "new 1", "free 1", "retire 1",
		"guard 1 4", "clear 4", "enter", "leave", "quiet",
	}
	for i, s := range want {
		holdLine(t, api.Instr{Op: i + 1, A: 1, B: 2, C: 3, N: 4}, s)
	}
	for _, c := range []struct {
		x    api.Instr
		want string
	}{
		{api.Instr{Op: api.OpHalt}, "halt"},
		{api.Instr{Op: api.OpSet}, "set 0 0"},
		{api.Instr{Op: api.OpSet, A: 3, N: -1}, "set 3 -1"},
		{api.Instr{Op: api.OpSet, N: math.MinInt64}, "set 0 -9223372036854775808"},
		{api.Instr{Op: api.OpSet, A: math.MaxInt, N: math.MaxInt64}, "set 9223372036854775807 9223372036854775807"},
		{api.Instr{Op: api.OpCopy, A: 10, B: 100}, "copy 10 100"},
		{api.Instr{Op: api.OpCas, A: -7, B: 0, C: 256, N: 1000}, "cas -7 0 256 1000"},
		{api.Instr{Op: api.OpSwap}, "swap 0 0 0 0"},
		{api.Instr{Op: api.OpJump, A: 5, B: 6, C: 7, N: 16}, "jump 16"},
		{api.Instr{Op: api.OpClear, A: -1, B: -1, C: -1}, "clear 0"},
		{api.Instr{Op: api.OpNew, A: math.MinInt}, "new -9223372036854775808"},
	} {
		holdLine(t, c.x, c.want)
	}
}

// P12.1: each operand of each instruction, be it as told or not; the line is the same in form.
func TestOperands(t *testing.T) {
	for op := 1; op <= 25; op++ {
		for i := range 4 {
			for _, n := range ends {
				for _, rest := range [][4]int64{{}, {1, 1, 1, 1}, {-1, -1, -1, -1}, {3, 10, 200, 5000}} {
					rest[i] = n
					holdInstr(t, with(op, rest))
				}
			}
		}
		for _, n := range ends {
			holdInstr(t, with(op, [4]int64{n, n, n, n}))
			holdInstr(t, with(op, [4]int64{n, -n, n + 1, -n - 1}))
		}
	}
}

// P12.1: of small operands all four at once, of each instruction.
func TestSmallOperands(t *testing.T) {
	for op := 1; op <= 25; op++ {
		for i := range 7 * 7 * 7 * 7 {
			holdInstr(t, with(op, [4]int64{int64(i%7 - 2), int64(i/7%7 - 2), int64(i/49%7 - 2), int64(i/343 - 2)}))
		}
	}
}

// P12.1: operands that are nothing to an instruction are left out, whatever they are.
func TestLeftOut(t *testing.T) {
	for op := 1; op <= 25; op++ {
		plain, err := show.Instr(api.Instr{Op: op})
		if err != api.OK {
			t.Fatalf("Instr of %d: %d", op, err)
		}
		for _, n := range ends {
			var l [4]int64
			for i, letter := range page[op][1] {
				if letter == '-' {
					l[i] = n
				}
			}
			holdLine(t, with(op, l), plain)
		}
	}
}

// P12.1: a line has its words, one blank between each two, and no line feed.
func TestForm(t *testing.T) {
	c := chance(1)
	for i := range 100000 {
		x := with(i%25+1, [4]int64{c.number(), c.number(), c.number(), c.number()})
		s, err := show.Instr(x)
		want := []string{page[x.Op][0]}
		for i, n := range operands(x) {
			if page[x.Op][1][i] != '-' {
				want = append(want, fmt.Sprint(n))
			}
		}
		if words := strings.Split(s, " "); err != api.OK || !slices.Equal(words, want) || strings.ContainsAny(s, "\n\r\t\x00") {
			t.Fatalf("Instr(%+v) = %q, %d, want the words %q", x, s, err, want)
		}
	}
}

// P12.1: a number that is no instruction's has no line, whatever the operands are.
func TestNoInstr(t *testing.T) {
	for _, op := range noOps {
		for _, l := range [][4]int64{{}, {1, 2, 3, 4}, {-1, math.MinInt64, math.MaxInt64, math.MinInt64}} {
			if s, err := show.Instr(with(op, l)); s != "" || err != api.ErrKind {
				t.Errorf("Instr of %d = %q, %d", op, s, err)
			}
		}
	}
	for op := -2000; op <= 2000; op++ {
		holdInstr(t, with(op, [4]int64{1, 2, 3, 4}))
	}
	c := chance(2)
	for range 100000 {
		holdInstr(t, with(int(c.number()), [4]int64{c.number(), c.number(), c.number(), c.number()}))
	}
}

// P12.1, P5: decimals in a line: no noughts ahead, - ahead below 0, and 0 as 0.
func TestDecimals(t *testing.T) {
	c := chance(3)
	l := slices.Clone(ends)
	for n := int64(-1200); n <= 1200; n++ {
		l = append(l, n)
	}
	for n := int64(1); n <= 1e17; n *= 10 {
		l = append(l, n*10, n*10-1, n*10+1, -n*10, -n*10+1, -n*10-1)
	}
	for range 20000 {
		l = append(l, c.number())
	}
	for _, n := range l {
		holdLine(t, api.Instr{Op: api.OpSet, N: n}, "set 0 "+decimal(n))
		holdLine(t, api.Instr{Op: api.OpFree, A: int(n)}, "free "+decimal(n))
		holdText(t, threads([]api.Instr{{Op: api.OpSet, A: 1, N: n}}), "warrener 0 0 0\nthread\nset 1 "+decimal(n)+"\n")
	}
}

// P12.1: texts of programs that may be, written out.
func TestTexts(t *testing.T) {
	for _, c := range []struct {
		p    api.Prog
		want string
	}{
		{threads(nil), "warrener 0 0 0\nthread\n"},
		{threads([]api.Instr{}), "warrener 0 0 0\nthread\n"},
		{threads(nil, nil, nil, nil), "warrener 0 0 0\nthread\nthread\nthread\nthread\n"},
		{threads(halts(1)), "warrener 0 0 0\nthread\nhalt\n"},
		{threads(nil, halts(2), nil), "warrener 0 0 0\nthread\nthread\nhalt\nhalt\nthread\n"},
		{api.Prog{Roots: 4, Cells: 6, Slots: 2, Code: [][]api.Instr{nil}}, "warrener 4 6 2\nthread\n"},
		{api.Prog{Roots: 1, Code: [][]api.Instr{nil}}, "warrener 1 0 0\nthread\n"},
		{api.Prog{Cells: 1, Code: [][]api.Instr{nil}}, "warrener 0 1 0\nthread\n"},
		{api.Prog{Slots: 1, Code: [][]api.Instr{nil}}, "warrener 0 0 1\nthread\n"},
		{
			api.Prog{Roots: 1, Cells: 2, Slots: 1, Code: [][]api.Instr{
				{{Op: api.OpNew}, {Op: api.OpPut}, {Op: api.OpFree}},
				{{Op: api.OpLook, A: 1}, {Op: api.OpGuard, A: 1}, {Op: api.OpFence}, {Op: api.OpLoad, A: 2, B: 1}},
			}},
			"warrener 1 2 1\nthread\nnew 0\nput 0 0\nfree 0\nthread\nlook 1 0\nguard 1 0\nfence\nload 2 1 0\n",
		},
		{
			api.Prog{Roots: 2, Cells: 6, Slots: 2, Code: [][]api.Instr{
				{{Op: api.OpSet, A: 3, N: -2}, {Op: api.OpCas, A: 1, B: 2, C: 3, N: 1}, {Op: api.OpJump, N: 3}},
				{},
				{{Op: api.OpSwap, A: 3, B: 2, C: 1, N: 1}, {Op: api.OpClear, N: 1}},
			}},
			"warrener 2 6 2\nthread\nset 3 -2\ncas 1 2 3 1\njump 3\nthread\nthread\nswap 3 2 1 1\nclear 1\n",
		},
	} {
		holdText(t, c.p, c.want)
		hold(t, c.p)
	}
}

// P12.1: all numbers of roots, cells, slots, threads and instructions that there may be.
func TestMayBe(t *testing.T) {
	for _, p := range some() {
		holdText(t, p, text(p))
	}
	for i := range 5 * 7 * 3 {
		p := api.Prog{Roots: i % 5, Cells: i / 5 % 7, Slots: i / 35}
		for many := 1; many <= 4; many++ {
			for n := range 17 {
				p.Code = make([][]api.Instr, many)
				p.Code[0], p.Code[many-1] = halts(16-n), halts(n)
				holdText(t, p, text(p))
			}
		}
	}
}

// P12.1: each instruction that may be, in each place of each thread of the greatest program.
func TestPlaces(t *testing.T) {
	c := chance(4)
	p := greatest()
	for op := 1; op <= 25; op++ {
		for i := range 64 {
			x := c.instr(p, 16)
			for x.Op != op {
				x = c.instr(p, 16)
			}
			kept := p.Code[i/16][i%16]
			p.Code[i/16][i%16] = x
			holdText(t, p, text(p))
			if s, err := show.Prog(p); err != api.OK || strings.Split(s, "\n")[2+i+i/16] != line(x) {
				t.Fatalf("the line of %+v at %d of %q, %d", x, i, s, err)
			}
			p.Code[i/16][i%16] = kept
		}
	}
}

// P12.1: the greatest program's text, line by line, with a line feed behind the last one, too.
func TestGreatest(t *testing.T) {
	p := greatest()
	s, err := show.Prog(p)
	l := strings.SplitAfter(s, "\n")
	if err != api.OK || len(l) != 70 || l[69] != "" || l[0] != "warrener 4 6 2\n" || show.Count(p) != 69 {
		t.Fatalf("the greatest program is %q, %d", s, err)
	}
	for i, code := range p.Code {
		if l[1+17*i] != "thread\n" {
			t.Errorf("thread %d begins with %q", i, l[1+17*i])
		}
		for j, x := range code {
			if one, _ := show.Instr(x); l[2+17*i+j] != one+"\n" || one != line(x) {
				t.Errorf("thread %d has %q at %d, want %q", i, l[2+17*i+j], j, one)
			}
		}
	}
}

// P12.1: what may not be has no text, and what is told first.
func TestWrongs(t *testing.T) {
	for _, c := range wrongs() {
		if s, err := show.Prog(c.p); s != "" || err != c.want {
			t.Errorf("Prog(%+v) = %q, %d, want %d", c.p, s, err, c.want)
		}
		hold(t, c.p)
	}
}

// P12.1: roots, cells and slots of which there are fewer or more than there may be.
func TestNumbers(t *testing.T) {
	for _, n := range ends {
		for _, code := range [][][]api.Instr{nil, {nil}, {halts(1), halts(2)}, {{none}}, {halts(17)}} {
			hold(t, api.Prog{Roots: int(n), Code: code})
			hold(t, api.Prog{Cells: int(n), Code: code})
			hold(t, api.Prog{Slots: int(n), Code: code})
			hold(t, api.Prog{Roots: int(n), Cells: int(n), Slots: int(n), Code: code})
		}
	}
}

// P12.1: an instruction that may not be, in each place of each thread.
func TestWrongPlaces(t *testing.T) {
	for many := 1; many <= 4; many++ {
		for i := range many {
			for j := range 16 {
				for _, x := range []api.Instr{none, {}, off, {Op: -1}, {Op: api.OpQuiet, B: 1}, {Op: api.OpJump, N: 17}, {Op: api.OpLook}} {
					p := threads(slices.Repeat([][]api.Instr{nil}, many)...)
					p.Code[i] = halts(16)
					p.Code[i][j] = x
					if s, err := show.Prog(p); s != "" || err != instrWants(x, p, 16) || err == api.OK {
						t.Fatalf("Prog(%+v) = %q, %d", p, s, err)
					}
				}
			}
		}
	}
}

// P12.1: Count of what may be, and of what may not be.
func TestCount(t *testing.T) {
	for _, c := range []struct {
		code [][]api.Instr
		want int
	}{
		{nil, 1},
		{[][]api.Instr{}, 1},
		{[][]api.Instr{nil}, 2},
		{[][]api.Instr{{}}, 2},
		{[][]api.Instr{nil, {}, nil, {}}, 5},
		{[][]api.Instr{halts(1)}, 3},
		{[][]api.Instr{halts(16)}, 18},
		{[][]api.Instr{halts(17)}, 19},
		{[][]api.Instr{nil, halts(2), nil}, 6},
		{[][]api.Instr{halts(16), halts(16), halts(16), halts(16)}, 69},
		{make([][]api.Instr, 5), 6},
		{make([][]api.Instr, 300), 301},
		{make([][]api.Instr, 1<<20), 1<<20 + 1},
		{[][]api.Instr{make([]api.Instr, 300)}, 302},
		{[][]api.Instr{{none, off, {}}}, 5},
		{[][]api.Instr{{none}, {none, none}, nil, nil, {halt}}, 10},
		{[][]api.Instr{make([]api.Instr, 1<<18), nil, make([]api.Instr, 1<<17)}, 1<<18 + 1<<17 + 4},
		{slices.Repeat([][]api.Instr{halts(3)}, 1000), 4001},
	} {
		if n := show.Count(api.Prog{Code: c.code}); n != c.want {
			t.Errorf("Count of %d threads = %d, want %d", len(c.code), n, c.want)
		}
		for _, n := range []int{-1, 1, 5, 7, math.MinInt, math.MaxInt} {
			if got := show.Count(api.Prog{Roots: n, Cells: n / 2, Slots: -n, Code: c.code}); got != c.want {
				t.Errorf("Count of %d threads and %d roots = %d, want %d", len(c.code), n, got, c.want)
			}
		}
	}
	for _, c := range wrongs() {
		if n := show.Count(c.p); n != count(c.p) {
			t.Errorf("Count(%+v) = %d, want %d", c.p, n, count(c.p))
		}
	}
}

// P12.1: of what may be, Count is the number of line feeds in the text, the last octet of which is one.
func TestFeeds(t *testing.T) {
	c := chance(5)
	l := some()
	for range 3000 {
		l = append(l, c.prog())
	}
	for _, p := range l {
		s, err := show.Prog(p)
		if n := show.Count(p); err != api.OK || n != strings.Count(s, "\n") || !strings.HasSuffix(s, "\n") || strings.HasSuffix(s, "\n\n") {
			t.Fatalf("Count(%+v) = %d, of %q, %d", p, n, s, err)
		}
	}
}

// P12.1: programs by chance, of each error and of none.
func TestByChance(t *testing.T) {
	c, seen := chance(6), map[api.Errno]int{}
	for range 40000 {
		p := c.odd()
		seen[wants(p)]++
		hold(t, p)
	}
	for _, err := range []api.Errno{api.OK, api.ErrKind, api.ErrRange, api.ErrMany} {
		if seen[err] < 500 {
			t.Errorf("just %d programs of %d", seen[err], err)
		}
	}
}

// P12.1: no two programs that may be have one text, where they are not one.
func TestApart(t *testing.T) {
	c, whose := chance(7), map[string]api.Prog{}
	for range 20000 {
		p := api.Prog{Roots: c.next(3), Cells: c.next(2), Slots: c.next(2)}
		for range c.next(3) + 1 {
			code := make([]api.Instr, c.next(3))
			for i := range code {
				code[i] = c.instr(p, len(code))
			}
			p.Code = append(p.Code, code)
		}
		s, err := show.Prog(p)
		if other, there := whose[s]; err != api.OK || there && !same(p, other) {
			t.Fatalf("%+v and %+v have the text %q, %d", p, other, s, err)
		}
		whose[s] = p
	}
}

// P2: a program that is handed in is not changed, nor what stands behind it.
func TestHandedIn(t *testing.T) {
	l := some()
	for _, c := range wrongs() {
		l = append(l, c.p)
	}
	for _, p := range l {
		back := [][]api.Instr{halts(3), {off}}
		p.Code = append(slices.Clip(p.Code), back...)[:len(p.Code)]
		for i := range p.Code {
			p.Code[i] = append(slices.Clip(p.Code[i]), none, off)[:len(p.Code[i])]
		}
		kept := copied(p)
		show.Prog(p)
		show.Count(p)
		for _, code := range p.Code {
			for _, x := range code {
				show.Instr(x)
			}
		}
		if !same(p, kept) {
			t.Fatalf("the program is %+v, and was %+v", p, kept)
		}
		for _, code := range p.Code {
			if behind := code[len(code) : len(code)+2]; behind[0] != none || behind[1] != off {
				t.Fatalf("behind the code stands %+v", behind)
			}
		}
		if behind := p.Code[len(p.Code) : len(p.Code)+2]; !slices.EqualFunc(behind, back, slices.Equal) {
			t.Fatalf("behind the threads stands %+v", behind)
		}
	}
}

// P2: a text stands as it stood when its program is another one, and the program's next text is that of what it is then.
func TestChanged(t *testing.T) {
	c := chance(8)
	for range 500 {
		p := c.prog()
		p.Code = append(p.Code[:len(p.Code):len(p.Code)], halts(2))[:len(p.Code)]
		want := text(p)
		first, _ := show.Prog(p)
		many := show.Count(p)
		p.Roots, p.Cells, p.Slots = 4, 5, 2
		for _, code := range p.Code {
			for i := range code {
				code[i] = c.instr(p, len(code))
			}
		}
		hold(t, p)
		p.Code[0] = halts(7)
		hold(t, p)
		p.Code[0] = []api.Instr{none}
		hold(t, p)
		if first != want || many != strings.Count(want, "\n") {
			t.Fatalf("the text is %q, of %d lines, and was %q", first, many, want)
		}
	}
}

// P2: no two texts that are answered share memory, be they of one call or of two.
func TestTextsApart(t *testing.T) {
	var all []string
	for range 2 {
		for op := 1; op <= 25; op++ {
			s, _ := show.Instr(api.Instr{Op: op})
			all = append(all, s)
		}
		for _, p := range some() {
			s, _ := show.Prog(p)
			all = append(all, s)
		}
	}
	for i, a := range all {
		for _, b := range all[:i] {
			if unsafe.StringData(a) == unsafe.StringData(b) {
				t.Errorf("%q and %q are in one place", a, b)
			}
		}
	}
}

// P3: what a call answers hangs on its arguments alone, whatever came ahead of it.
func TestNothingElse(t *testing.T) {
	c := chance(9)
	for range 5000 {
		p := c.odd()
		x := with(c.next(27), [4]int64{c.number(), c.number(), c.number(), c.number()})
		for range 2 {
			if told := wrong(p) + wrongInstr(x); told != "" {
				t.Fatal(told)
			}
		}
	}
}

// P3: calls of many goroutines answer as those of one, of one program, too.
func TestTogether(t *testing.T) {
	var wait sync.WaitGroup
	one, told := greatest(), make([]string, 8)
	for i := range told {
		wait.Go(func() {
			c := chance(100 + i)
			for range 300 {
				told[i] += wrong(one) + wrong(c.odd()) + wrongInstr(with(c.next(27), [4]int64{c.number(), 1, 2, c.number()}))
			}
		})
	}
	wait.Wait()
	for _, s := range told {
		if s != "" {
			t.Error(s)
		}
	}
}

// P1: none of the calls panics, and each ends, whatever it is given.
func TestAnything(t *testing.T) {
	var x [][]api.Instr
	for _, n := range ends {
		holdInstr(t, with(int(n), [4]int64{n, n, n, n}))
		x = append(x, []api.Instr{with(int(n), [4]int64{n, n, n, n}), {Op: api.OpSet, N: n}})
	}
	for _, n := range ends {
		for _, code := range [][][]api.Instr{nil, {}, {nil}, x, x[:1], x[3:5], make([][]api.Instr, 1000), {make([]api.Instr, 1000)}} {
			hold(t, api.Prog{Roots: int(n), Cells: int(n), Slots: int(n), Code: code})
			hold(t, api.Prog{Cells: 2, Code: code})
		}
	}
	hold(t, api.Prog{Code: make([][]api.Instr, 1<<18)})
	hold(t, api.Prog{Code: [][]api.Instr{make([]api.Instr, 1<<18)}})
}

// FuzzInstr: whatever an instruction is, Instr answers as the page says, and so does Prog of a program that has it.
func FuzzInstr(f *testing.F) {
	for op := range 27 {
		f.Add(op, 1, 2, 3, int64(4))
	}
	f.Fuzz(func(t *testing.T, op int, a int, b int, c int, n int64) {
		x := api.Instr{Op: op, A: a, B: b, C: c, N: n}
		holdInstr(t, x)
		hold(t, api.Prog{Roots: 4, Cells: 6, Slots: 2, Code: [][]api.Instr{nil, {halt, x}}})
	})
}
