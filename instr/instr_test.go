package instr_test

import (
	"bytes"
	"encoding/binary"
	"math"
	"strconv"
	"strings"
	"sync"
	"testing"

	"warrener/api"
	"warrener/instr"
)

// page is what the document says of each instruction, by its number: the letters of A, B, C and N.
var page = [26]string{
	1: "----", 2: "r--n", 3: "rr--", 4: "rrr-", 5: "rrr-", 6: "rrr-", 7: "rrr-",
	8: "---t", 9: "r--t", 10: "rr-t",
	11: "rg--", 12: "gr--", 13: "rrrg", 14: "rr-f", 15: "rr-f", 16: "rrrf", 17: "----",
	18: "r---", 19: "r---", 20: "r---", 21: "r--s", 22: "---s", 23: "----", 24: "----", 25: "----",
}

// about is what an instruction is held against: how many roots and slots there are, and how many instructions.
type about struct {
	roots, slots, code int
}

// prog is a program of so many roots and slots, of which nothing else may be.
func (a about) prog() api.Prog {
	return api.Prog{Roots: a.roots, Slots: a.slots, Cells: math.MinInt, Code: [][]api.Instr{nil, {{Op: -1}}, nil, nil, nil, nil}}
}

// most is the greatest number that a letter tells, from 0 on; -1, if it tells none; of n there is no such number.
func (a about) most(letter byte) int {
	most := map[byte]int{'r': 3, 'f': 1, '-': 0, 't': max(a.code, -1)}
	if a.roots > 0 {
		most['g'] = a.roots - 1
	}
	if a.slots > 0 {
		most['s'] = a.slots - 1
	}
	if n, there := most[letter]; there {
		return n
	}
	return -1
}

// may tells whether an operand is as its letter tells.
func (a about) may(letter byte, n int64) bool {
	return letter == 'n' || n >= 0 && n <= int64(a.most(letter))
}

// wants is what the page says of an instruction.
func (a about) wants(x api.Instr) api.Errno {
	if x.Op < 1 || x.Op > 25 {
		return api.ErrKind
	}
	all := []int64{int64(x.A), int64(x.B), int64(x.C), x.N}
	for i, n := range all {
		if !a.may(page[x.Op][i], n) {
			return api.ErrRange
		}
	}
	return api.OK
}

// ordinary is what an instruction may be held against: from nothing to as much as there may be.
func ordinary() []about {
	var l []about
	for roots := 0; roots <= api.MaxRoots; roots++ {
		for slots := 0; slots <= api.MaxSlots; slots++ {
			for _, code := range []int{0, 1, 2, 15, 16} {
				l = append(l, about{roots, slots, code})
			}
		}
	}
	return l
}

// strange is what is held against, too, though no program may be so.
func strange() []about {
	var l []about
	far := []int{math.MinInt, math.MinInt + 1, math.MinInt32, -1 << 16, -256, -2, -1, 0, 3, 5, 300, 1 << 16, math.MaxInt32, 1 << 32, 1<<32 + 3, math.MaxInt - 1, math.MaxInt}
	for _, n := range far {
		l = append(l, about{n, 1, 3}, about{2, n, 3}, about{2, 1, n}, about{n, n, n})
	}
	return l
}

// beside are the numbers about those from 0 to most: each of these, those that differ from one of them by 2^8, 2^16, 2^32 and others, and the ends of all widths.
func beside(most int) []int64 {
	l := []int64{-1, -2, int64(most) + 1, int64(most) + 2, math.MinInt64, math.MinInt64 + 1, math.MaxInt64, math.MaxInt64 - 1}
	for _, w := range []int{7, 8, 15, 16, 31, 32, 62} {
		l = append(l, 1<<w-1, -1<<w-1)
	}
	for n := int64(0); n <= int64(max(most, 0)); n++ {
		l = append(l, n)
		for _, w := range []int{5, 6, 7, 8, 9, 16, 24, 31, 32, 33, 48, 62, 63} {
			l = append(l, n+1<<w, n-1<<w)
		}
	}
	return l
}

// with is an instruction that has another number in one of A, B, C and N.
func with(x api.Instr, i int, n int64) api.Instr {
	switch i {
	case 0:
		x.A = int(n)
	case 1:
		x.B = int(n)
	case 2:
		x.C = int(n)
	case 3:
		x.N = n
	}
	return x
}

// noOps are numbers that are no instructions, though some are one in their lowest bits, or but for their sign.
func noOps() []int {
	l := []int{0, 26, 27, 31, 32, 50, 99, 127, 128, 255, 256, 1000, math.MinInt, math.MinInt + 1, math.MaxInt, math.MaxInt32, math.MinInt32, math.MaxUint32}
	for n := 0; n <= 26; n++ {
		for _, w := range []int{5, 8, 16, 31, 32, 62, 63} {
			l = append(l, n+1<<w, n-1<<w)
		}
		l = append(l, -n-1, math.MaxInt-n, math.MinInt+n)
	}
	return l
}

// chance is a row of numbers without a short beat.
type chance uint64

func (c *chance) next(below int) int {
	*c = *c*6364136223846793005 + 1442695040888963407
	return int(uint64(*c) >> 33 % uint64(below))
}

// number is one of all 64 bits, of any width.
func (c *chance) number() int64 {
	n := int64(c.next(1<<31))<<33 ^ int64(c.next(1<<31))<<11 ^ int64(c.next(1<<11))
	return n >> c.next(64)
}

// near is mostly a small number.
func (c *chance) near() int64 {
	if c.next(12) == 0 {
		return c.number()
	}
	return int64(c.next(8) - 1)
}

// any is an instruction of numbers of any width.
func (c *chance) any() api.Instr {
	return api.Instr{Op: int(c.number()), A: int(c.number()), B: int(c.number()), C: int(c.number()), N: c.number()}
}

// octets are so many.
func (c *chance) octets(many int) []byte {
	b := make([]byte, many)
	for i := range b {
		b[i] = byte(c.next(256))
	}
	return b
}

// mayBe is an instruction that may be, where there is a root and a slot.
func (c *chance) mayBe(a about) api.Instr {
	x := api.Instr{Op: c.next(25) + 1}
	for i := range 4 {
		letter := page[x.Op][i]
		n := c.number()
		if letter != 'n' {
			n = int64(c.next(a.most(letter) + 1))
		}
		x = with(x, i, n)
	}
	return x
}

func told(x api.Instr) string {
	l := []string{strconv.Itoa(x.Op), strconv.Itoa(x.A), strconv.Itoa(x.B), strconv.Itoa(x.C), strconv.FormatInt(x.N, 10)}
	return strings.Join(l, " ")
}

// wrong tells how Check of an instruction differs from the page; nothing, if it does not.
func wrong(x api.Instr, a about) string {
	got, want := instr.Check(x, a.prog(), a.code), a.wants(x)
	if got == want {
		return ""
	}
	return "Check(" + told(x) + "), roots " + strconv.Itoa(a.roots) + ", slots " + strconv.Itoa(a.slots) + ", code " + strconv.Itoa(a.code) + ": " + strconv.Itoa(int(got)) + ", want " + strconv.Itoa(int(want))
}

func hold(t *testing.T, x api.Instr, a about) {
	if said := wrong(x, a); said != "" {
		t.Helper()
		t.Fatal(said)
	}
}

func holdCheck(t *testing.T, x api.Instr, a about, want api.Errno) {
	t.Helper()
	if got := instr.Check(x, a.prog(), a.code); got != want {
		t.Errorf("Check(%s) of %+v = %d, want %d", told(x), a, got, want)
	}
}

// wantsOctets are an instruction's, by the library's own.
func wantsOctets(x api.Instr) []byte {
	return binary.BigEndian.AppendUint64([]byte{byte(x.Op), byte(x.A), byte(x.B), byte(x.C)}, uint64(x.N))
}

// wantsInstr is the instruction of twelve octets, by the library's own.
func wantsInstr(b []byte) api.Instr {
	return api.Instr{Op: int(b[0]), A: int(b[1]), B: int(b[2]), C: int(b[3]), N: int64(binary.BigEndian.Uint64(b[4:]))}
}

func holdPut(t *testing.T, x api.Instr, want []byte) {
	t.Helper()
	if got := instr.Put(x); !bytes.Equal(got, want) {
		t.Errorf("Put(%s) = %v, want %v", told(x), got, want)
	}
}

func holdGet(t *testing.T, b []byte, want api.Instr) {
	t.Helper()
	if got, err := instr.Get(b); got != want || err != api.OK {
		t.Errorf("Get(%v) = %s, %d, want %s", b, told(got), err, told(want))
	}
}

func holdNoForm(t *testing.T, b []byte) {
	t.Helper()
	if got, err := instr.Get(b); got != (api.Instr{}) || err != api.ErrForm {
		t.Errorf("Get of %d octets = %s, %d", len(b), told(got), err)
	}
}

// P10.1: each instruction with operands that may all be, the least ones, the greatest ones, and others.
func TestMayBe(t *testing.T) {
	for _, a := range ordinary() {
		if a.roots == 0 || a.slots == 0 {
			continue
		}
		for n := 1; n <= 25; n++ {
			least, greatest := api.Instr{Op: n}, api.Instr{Op: n}
			for i := range 4 {
				letter := page[n][i]
				if letter == 'n' {
					least, greatest = with(least, i, math.MinInt64), with(greatest, i, math.MaxInt64)
					continue
				}
				greatest = with(greatest, i, int64(a.most(letter)))
			}
			holdCheck(t, api.Instr{Op: n}, a, api.OK)
			holdCheck(t, least, a, api.OK)
			holdCheck(t, greatest, a, api.OK)
		}
	}
}

// P10.1: each instruction by itself, with operands that may be, and with one that may not, as they stand on the page.
func TestEach(t *testing.T) {
	a := about{roots: 3, slots: 2, code: 5}
	cases := []struct {
		may api.Instr
		not []api.Instr
	}{
		{api.Instr{Op: api.OpHalt}, []api.Instr{{Op: 1, A: 1}, {Op: 1, B: 1}, {Op: 1, C: 1}, {Op: 1, N: 1}, {Op: 1, N: -1}}},
		{api.Instr{Op: api.OpSet, A: 3, N: -7}, []api.Instr{{Op: 2, A: 4}, {Op: 2, A: -1}, {Op: 2, B: 1}, {Op: 2, C: 1}}},
		{api.Instr{Op: api.OpCopy, A: 3, B: 3}, []api.Instr{{Op: 3, A: 4}, {Op: 3, B: 4}, {Op: 3, C: 1}, {Op: 3, N: 1}}},
		{api.Instr{Op: api.OpAdd, A: 3, B: 3, C: 3}, []api.Instr{{Op: 4, A: 4}, {Op: 4, B: -1}, {Op: 4, C: 4}, {Op: 4, N: 1}}},
		{api.Instr{Op: api.OpSub, A: 1, B: 2, C: 3}, []api.Instr{{Op: 5, A: -1}, {Op: 5, B: 4}, {Op: 5, C: -1}, {Op: 5, N: -1}}},
		{api.Instr{Op: api.OpMul, A: 3, B: 2, C: 1}, []api.Instr{{Op: 6, A: 4}, {Op: 6, B: 4}, {Op: 6, C: 4}, {Op: 6, N: 2}}},
		{api.Instr{Op: api.OpDiv, A: 0, B: 3, C: 0}, []api.Instr{{Op: 7, A: 4}, {Op: 7, B: 4}, {Op: 7, C: 4}, {Op: 7, N: 1}}},
		{api.Instr{Op: api.OpJump, N: 5}, []api.Instr{{Op: 8, N: 6}, {Op: 8, N: -1}, {Op: 8, A: 1}, {Op: 8, B: 1}, {Op: 8, C: 1}}},
		{api.Instr{Op: api.OpZero, A: 3, N: 5}, []api.Instr{{Op: 9, A: 4}, {Op: 9, N: 6}, {Op: 9, B: 1}, {Op: 9, C: 1}}},
		{api.Instr{Op: api.OpSame, A: 3, B: 3, N: 5}, []api.Instr{{Op: 10, A: 4}, {Op: 10, B: 4}, {Op: 10, C: 1}, {Op: 10, N: 6}}},
		{api.Instr{Op: api.OpLook, A: 3, B: 2}, []api.Instr{{Op: 11, A: 4}, {Op: 11, B: 3}, {Op: 11, B: -1}, {Op: 11, C: 1}, {Op: 11, N: 1}}},
		{api.Instr{Op: api.OpPut, A: 2, B: 3}, []api.Instr{{Op: 12, A: 3}, {Op: 12, A: -1}, {Op: 12, B: 4}, {Op: 12, C: 1}, {Op: 12, N: 1}}},
		{api.Instr{Op: api.OpSwap, A: 3, B: 3, C: 3, N: 2}, []api.Instr{{Op: 13, A: 4}, {Op: 13, B: 4}, {Op: 13, C: 4}, {Op: 13, N: 3}, {Op: 13, N: -1}}},
		{api.Instr{Op: api.OpLoad, A: 3, B: 3, N: 1}, []api.Instr{{Op: 14, A: 4}, {Op: 14, B: 4}, {Op: 14, C: 1}, {Op: 14, N: 2}, {Op: 14, N: -1}}},
		{api.Instr{Op: api.OpStore, A: 3, B: 3, N: 1}, []api.Instr{{Op: 15, A: 4}, {Op: 15, B: 4}, {Op: 15, C: 1}, {Op: 15, N: 2}, {Op: 15, N: -1}}},
		{api.Instr{Op: api.OpCas, A: 3, B: 3, C: 3, N: 1}, []api.Instr{{Op: 16, A: 4}, {Op: 16, B: 4}, {Op: 16, C: 4}, {Op: 16, N: 2}, {Op: 16, N: -1}}},
		{api.Instr{Op: api.OpFence}, []api.Instr{{Op: 17, A: 1}, {Op: 17, B: 1}, {Op: 17, C: 1}, {Op: 17, N: 1}}},
		{api.Instr{Op: api.OpNew, A: 3}, []api.Instr{{Op: 18, A: 4}, {Op: 18, A: -1}, {Op: 18, B: 1}, {Op: 18, C: 1}, {Op: 18, N: 1}}},
		{api.Instr{Op: api.OpFree, A: 3}, []api.Instr{{Op: 19, A: 4}, {Op: 19, A: -1}, {Op: 19, B: 1}, {Op: 19, C: 1}, {Op: 19, N: 1}}},
		{api.Instr{Op: api.OpRetire, A: 3}, []api.Instr{{Op: 20, A: 4}, {Op: 20, A: -1}, {Op: 20, B: 1}, {Op: 20, C: 1}, {Op: 20, N: 1}}},
		{api.Instr{Op: api.OpGuard, A: 3, N: 1}, []api.Instr{{Op: 21, A: 4}, {Op: 21, B: 1}, {Op: 21, C: 1}, {Op: 21, N: 2}, {Op: 21, N: -1}}},
		{api.Instr{Op: api.OpClear, N: 1}, []api.Instr{{Op: 22, A: 1}, {Op: 22, B: 1}, {Op: 22, C: 1}, {Op: 22, N: 2}, {Op: 22, N: -1}}},
		{api.Instr{Op: api.OpEnter}, []api.Instr{{Op: 23, A: 1}, {Op: 23, B: 1}, {Op: 23, C: 1}, {Op: 23, N: 1}}},
		{api.Instr{Op: api.OpLeave}, []api.Instr{{Op: 24, A: 1}, {Op: 24, B: 1}, {Op: 24, C: 1}, {Op: 24, N: 1}}},
		{api.Instr{Op: api.OpQuiet}, []api.Instr{{Op: 25, A: 1}, {Op: 25, B: 1}, {Op: 25, C: 1}, {Op: 25, N: 1}}},
	}
	for i, c := range cases {
		if c.may.Op != i+1 {
			t.Fatalf("instruction %d stands at %d", c.may.Op, i)
		}
		holdCheck(t, c.may, a, api.OK)
		for _, x := range c.not {
			holdCheck(t, x, a, api.ErrRange)
		}
	}
}

// P10.1: just below and just above what each letter tells, and far beyond it, in each place of each instruction, where nothing else is wrong.
func TestEdges(t *testing.T) {
	for _, a := range ordinary() {
		for n := 1; n <= 25; n++ {
			for i := range 4 {
				letter := page[n][i]
				for _, v := range beside(a.most(letter)) {
					hold(t, with(api.Instr{Op: n}, i, v), a)
				}
				if letter != 'n' {
					holdCheck(t, with(api.Instr{Op: n}, i, -1), a, api.ErrRange)
					holdCheck(t, with(api.Instr{Op: n}, i, int64(a.most(letter))+1), a, api.ErrRange)
				}
			}
		}
	}
}

// P10.1: registers, from 0 to 3.
func TestRegisters(t *testing.T) {
	a := about{}
	for n := 1; n <= 25; n++ {
		if strings.Trim(page[n], "rn-") != "" {
			continue
		}
		for i := range 4 {
			if page[n][i] != 'r' {
				continue
			}
			for v := int64(0); v <= 3; v++ {
				holdCheck(t, with(api.Instr{Op: n}, i, v), a, api.OK)
				for _, by := range []int64{4, 1 << 8, 1 << 16, 1 << 32} {
					holdCheck(t, with(api.Instr{Op: n}, i, v+by), a, api.ErrRange)
					holdCheck(t, with(api.Instr{Op: n}, i, v-by), a, api.ErrRange)
				}
			}
			for _, v := range []int64{-1, 4, math.MinInt, math.MaxInt} {
				holdCheck(t, with(api.Instr{Op: n}, i, v), a, api.ErrRange)
			}
		}
	}
}

// P10.1: roots and slots, as many as there are, be it none, or fewer than that.
func TestRootsAndSlots(t *testing.T) {
	roots := []api.Instr{{Op: api.OpLook}, {Op: api.OpPut}, {Op: api.OpSwap}}
	at := []int{1, 0, 3}
	slots := []api.Instr{{Op: api.OpGuard}, {Op: api.OpClear}}
	for _, many := range []int{math.MinInt, math.MinInt + 1, -1 << 32, -256, -5, -1, 0, 1, 2, 3, 4} {
		for v := int64(-1); v <= 5; v++ {
			want := api.ErrRange
			if v >= 0 && v < int64(many) {
				want = api.OK
			}
			for i, x := range roots {
				holdCheck(t, with(x, at[i], v), about{roots: many}, want)
				holdCheck(t, with(x, at[i], v), about{roots: many, slots: 2, code: 16}, want)
			}
			for _, x := range slots {
				holdCheck(t, with(x, 3, v), about{slots: many}, want)
				holdCheck(t, with(x, 3, v), about{roots: 4, slots: many, code: 16}, want)
			}
		}
		for _, v := range []int64{math.MinInt, math.MinInt + 1, math.MaxInt - 1, math.MaxInt, 1 << 8, 1 << 16, 1 << 32, -1 << 8, -1 << 16, -1 << 32} {
			for i, x := range roots {
				holdCheck(t, with(x, at[i], v), about{roots: many, slots: 2, code: 16}, api.ErrRange)
			}
			for _, x := range slots {
				holdCheck(t, with(x, 3, v), about{roots: 4, slots: many, code: 16}, api.ErrRange)
			}
		}
	}
}

// P10.1: fields, 0 and 1.
func TestFields(t *testing.T) {
	for _, n := range []int{api.OpLoad, api.OpStore, api.OpCas} {
		for _, a := range append(ordinary(), strange()...) {
			for v := int64(-300); v <= 300; v++ {
				want := api.ErrRange
				if v == 0 || v == 1 {
					want = api.OK
				}
				holdCheck(t, api.Instr{Op: n, N: v}, a, want)
			}
			for _, v := range []int64{math.MinInt64, math.MaxInt64, 1 << 16, 1<<16 + 1, 1 << 32, 1<<32 + 1, -1 << 32, math.MinInt64 + 1} {
				holdCheck(t, api.Instr{Op: n, N: v}, a, api.ErrRange)
			}
		}
	}
}

// P10.1: places in the code, from 0 to how many instructions there are, the end among them; none, where there are fewer than none.
func TestPlaces(t *testing.T) {
	for _, n := range []int{api.OpJump, api.OpZero, api.OpSame} {
		for _, code := range []int{math.MinInt, math.MinInt + 1, -1 << 32, -256, -2, -1, 0, 1, 5, 16, 17, 255, 256, 1 << 32, math.MaxInt - 1, math.MaxInt} {
			a := about{code: code}
			for _, v := range []int64{0, 1, int64(code) - 1, int64(code), int64(code) + 1} {
				want := api.ErrRange
				if v >= 0 && v <= int64(code) {
					want = api.OK
				}
				holdCheck(t, api.Instr{Op: n, N: v}, a, want)
			}
			holdCheck(t, api.Instr{Op: n, N: -1}, a, api.ErrRange)
			holdCheck(t, api.Instr{Op: n, N: math.MinInt64}, a, api.ErrRange)
		}
	}
}

// P10.1: any number may be, where the letter is n.
func TestNumbers(t *testing.T) {
	c := chance(2)
	for _, a := range append(ordinary(), strange()...) {
		for _, v := range beside(16) {
			holdCheck(t, api.Instr{Op: api.OpSet, N: v}, a, api.OK)
		}
		holdCheck(t, api.Instr{Op: api.OpSet, A: 3, N: c.number()}, a, api.OK)
	}
}

// P10.1: where there is no operand, just 0 may be.
func TestNothing(t *testing.T) {
	a := about{roots: 4, slots: 2, code: 16}
	for n := 1; n <= 25; n++ {
		for i := range 4 {
			if page[n][i] != '-' {
				continue
			}
			holdCheck(t, with(api.Instr{Op: n}, i, 0), a, api.OK)
			for _, v := range []int64{-1, 1, 2, 3, 4, 16, 1 << 8, 1 << 16, 1 << 32, -1 << 8, -1 << 16, -1 << 32, math.MinInt, math.MaxInt} {
				holdCheck(t, with(api.Instr{Op: n}, i, v), a, api.ErrRange)
			}
		}
	}
}

// P10.1: what is no instruction is told, whatever its operands are.
func TestNoKind(t *testing.T) {
	c := chance(3)
	operands := []api.Instr{{}, {A: 1}, {B: -1}, {C: 4}, {N: math.MinInt64}, {A: -1, B: -1, C: -1, N: -1}, {A: math.MaxInt, B: math.MaxInt, C: math.MaxInt, N: math.MaxInt64}}
	for _, n := range noOps() {
		for _, a := range append(strange(), about{}, about{roots: 4, slots: 2, code: 16}) {
			x := operands[c.next(len(operands))]
			x.Op = n
			holdCheck(t, x, a, api.ErrKind)
		}
	}
	for _, x := range operands {
		for _, n := range noOps() {
			x.Op = n
			holdCheck(t, x, about{roots: 4, slots: 2, code: 16}, api.ErrKind)
		}
	}
}

// P10.1: several operands that may not be are one error.
func TestSeveral(t *testing.T) {
	a := about{roots: 2, slots: 1, code: 3}
	for n := 1; n <= 25; n++ {
		for _, v := range []int64{-1, 17, math.MinInt64, math.MaxInt64} {
			holdCheck(t, api.Instr{Op: n, A: int(v), B: int(v), C: int(v), N: v}, a, api.ErrRange)
		}
		for i := range 4 {
			for j := range 4 {
				for v := int64(-1); v <= 4; v++ {
					hold(t, with(with(api.Instr{Op: n}, i, v), j, 4-v), a)
				}
			}
		}
	}
}

// P10.1: all instructions of small numbers, and what is none.
func TestAllSmall(t *testing.T) {
	all := []about{{}, {roots: 1}, {slots: 1}, {code: 1}, {roots: 2, slots: 1, code: 2}, {roots: 3, slots: 2}, {roots: 4, slots: 2, code: 3}, {roots: 1, slots: 2, code: 4}, {roots: -1, slots: -1, code: -1}, {roots: 5, slots: 4, code: 1}}
	for _, a := range all {
		for n := 0; n <= 26; n++ {
			for i := range 7 * 7 * 7 * 7 {
				hold(t, api.Instr{Op: n, A: i%7 - 1, B: i/7%7 - 1, C: i/49%7 - 1, N: int64(i/343 - 1)}, a)
			}
		}
	}
}

// P10.1: instructions by chance, of numbers of any size, in programs that may be and in others.
func TestCheckByChance(t *testing.T) {
	c := chance(4)
	all := append(ordinary(), strange()...)
	for range 300000 {
		x := api.Instr{Op: c.next(26), A: int(c.near()), B: int(c.near()), C: int(c.near()), N: c.near()}
		for i := range 4 {
			if page[x.Op] != "" && page[x.Op][i] == '-' && c.next(10) > 0 {
				x = with(x, i, 0)
			}
		}
		hold(t, x, all[c.next(len(all))])
		hold(t, c.any(), about{roots: int(c.number()), slots: int(c.number()), code: int(c.number())})
	}
}

// P10.1: nothing of a program counts but Roots and Slots: not its cells, and not its code, nor how much of it there is.
func TestOnlyRootsAndSlots(t *testing.T) {
	c := chance(5)
	codes := [][][]api.Instr{nil, {}, {nil}, {{{Op: 1}}}, {{{Op: 99, A: -5}}, nil}, make([][]api.Instr, 100), {make([]api.Instr, 40), make([]api.Instr, 3)}}
	cells := []int{math.MinInt, -1, 0, 1, 6, 7, math.MaxInt}
	for range 50000 {
		a := about{roots: c.next(6) - 1, slots: c.next(4) - 1, code: c.next(19) - 1}
		x := api.Instr{Op: c.next(27), A: c.next(6) - 1, B: c.next(6) - 1, C: c.next(3), N: int64(c.next(19) - 1)}
		p := api.Prog{Roots: a.roots, Slots: a.slots, Cells: cells[c.next(len(cells))], Code: codes[c.next(len(codes))]}
		if got, want := instr.Check(x, p, a.code), a.wants(x); got != want {
			t.Fatalf("Check(%s, %+v, %d) = %d, want %d", told(x), p, a.code, got, want)
		}
	}
	jump := api.Instr{Op: api.OpJump, N: 3}
	long := api.Prog{Code: [][]api.Instr{make([]api.Instr, 9)}}
	if instr.Check(jump, long, 2) != api.ErrRange || instr.Check(jump, api.Prog{}, 3) != api.OK {
		t.Error("what the program has of code counts")
	}
}

// P10.2: the chapter's example.
func TestExample(t *testing.T) {
	holdPut(t, api.Instr{Op: api.OpHalt}, []byte{1, 0, 0, 0, 0, 0, 0, 0, 0, 0, 0, 0})
	holdGet(t, []byte{1, 0, 0, 0, 0, 0, 0, 0, 0, 0, 0, 0}, api.Instr{Op: api.OpHalt})
}

// P10.2: Put, octet by octet.
func TestPut(t *testing.T) {
	cases := []struct {
		x    api.Instr
		want []byte
	}{
		{api.Instr{}, make([]byte, 12)},
		{api.Instr{Op: 14, A: 0, B: 1, N: 1}, []byte{14, 0, 1, 0, 0, 0, 0, 0, 0, 0, 0, 1}},
		{api.Instr{Op: 16, A: 1, B: 2, C: 3, N: 1}, []byte{16, 1, 2, 3, 0, 0, 0, 0, 0, 0, 0, 1}},
		{api.Instr{Op: 2, A: 3, N: 0x0102030405060708}, []byte{2, 3, 0, 0, 1, 2, 3, 4, 5, 6, 7, 8}},
		{api.Instr{Op: 2, N: 258}, []byte{2, 0, 0, 0, 0, 0, 0, 0, 0, 0, 1, 2}},
		{api.Instr{Op: 2, N: -1}, []byte{2, 0, 0, 0, 255, 255, 255, 255, 255, 255, 255, 255}},
		{api.Instr{Op: 2, N: -2}, []byte{2, 0, 0, 0, 255, 255, 255, 255, 255, 255, 255, 254}},
		{api.Instr{Op: 2, N: math.MinInt64}, []byte{2, 0, 0, 0, 128, 0, 0, 0, 0, 0, 0, 0}},
		{api.Instr{Op: 2, N: math.MaxInt64}, []byte{2, 0, 0, 0, 127, 255, 255, 255, 255, 255, 255, 255}},
		{api.Instr{Op: 256, A: 257, B: 511, C: 1<<16 + 7}, []byte{0, 1, 255, 7, 0, 0, 0, 0, 0, 0, 0, 0}},
		{api.Instr{Op: -1, A: -2, B: -128, C: -256}, []byte{255, 254, 128, 0, 0, 0, 0, 0, 0, 0, 0, 0}},
		{api.Instr{Op: math.MinInt, A: math.MaxInt, B: math.MinInt + 5, C: math.MaxInt - 5}, []byte{0, 255, 5, 250, 0, 0, 0, 0, 0, 0, 0, 0}},
		{api.Instr{Op: 255, A: 128, B: 127, C: 200}, []byte{255, 128, 127, 200, 0, 0, 0, 0, 0, 0, 0, 0}},
		{api.Instr{Op: 1<<32 + 1, A: -1<<32 + 2, B: 1<<40 + 3, C: -1<<62 + 4}, []byte{1, 2, 3, 4, 0, 0, 0, 0, 0, 0, 0, 0}},
	}
	for _, c := range cases {
		holdPut(t, c.x, c.want)
	}
}

// P10.2: Put of each instruction, with operands that may be and others.
func TestPutEach(t *testing.T) {
	for n := range 256 {
		for _, v := range beside(3) {
			for i := range 4 {
				holdPut(t, with(api.Instr{Op: n, A: 1, B: 2, C: 3, N: 4}, i, v), wantsOctets(with(api.Instr{Op: n, A: 1, B: 2, C: 3, N: 4}, i, v)))
			}
		}
	}
	for _, n := range noOps() {
		holdPut(t, api.Instr{Op: n, A: 9, B: 8, C: 7, N: -6}, []byte{byte(n), 9, 8, 7, 255, 255, 255, 255, 255, 255, 255, 250})
	}
	c := chance(6)
	for range 100000 {
		x := c.any()
		holdPut(t, x, wantsOctets(x))
	}
}

// P10.2: Get of twelve octets, those of an instruction that may be, and others: Op, A, B and C from 0 on, N with its sign.
func TestGet(t *testing.T) {
	cases := []struct {
		b    []byte
		want api.Instr
	}{
		{make([]byte, 12), api.Instr{}},
		{[]byte{14, 0, 1, 0, 0, 0, 0, 0, 0, 0, 0, 1}, api.Instr{Op: 14, B: 1, N: 1}},
		{[]byte{2, 3, 0, 0, 1, 2, 3, 4, 5, 6, 7, 8}, api.Instr{Op: 2, A: 3, N: 0x0102030405060708}},
		{[]byte{16, 1, 2, 3, 0, 0, 0, 0, 0, 0, 0, 1}, api.Instr{Op: 16, A: 1, B: 2, C: 3, N: 1}},
		{[]byte{2, 0, 0, 0, 255, 255, 255, 255, 255, 255, 255, 254}, api.Instr{Op: 2, N: -2}},
		{[]byte{2, 0, 0, 0, 128, 0, 0, 0, 0, 0, 0, 0}, api.Instr{Op: 2, N: math.MinInt64}},
		{[]byte{2, 0, 0, 0, 127, 255, 255, 255, 255, 255, 255, 255}, api.Instr{Op: 2, N: math.MaxInt64}},
		{[]byte{255, 254, 128, 127, 0, 0, 0, 0, 0, 0, 1, 0}, api.Instr{Op: 255, A: 254, B: 128, C: 127, N: 256}},
		{bytes.Repeat([]byte{255}, 12), api.Instr{Op: 255, A: 255, B: 255, C: 255, N: -1}},
		{[]byte{26, 4, 200, 9, 0, 0, 0, 0, 0, 0, 0, 17}, api.Instr{Op: 26, A: 4, B: 200, C: 9, N: 17}},
	}
	for _, c := range cases {
		holdGet(t, c.b, c.want)
	}
}

// P10.2: each octet by itself counts, at its place.
func TestGetEach(t *testing.T) {
	for i := range 12 {
		for v := range 256 {
			b := []byte{1, 2, 3, 4, 5, 6, 7, 8, 9, 10, 11, 12}
			b[i] = byte(v)
			holdGet(t, b, wantsInstr(b))
		}
	}
	c := chance(7)
	for range 100000 {
		b := c.octets(12)
		holdGet(t, b, wantsInstr(b))
	}
}

// P10.2: octets that are not twelve, whatever they are.
func TestNoForm(t *testing.T) {
	holdNoForm(t, nil)
	holdNoForm(t, []byte{})
	c := chance(8)
	for many := range 1000 {
		if many == 12 {
			continue
		}
		holdNoForm(t, make([]byte, many))
		holdNoForm(t, bytes.Repeat([]byte{1}, many))
		holdNoForm(t, c.octets(many))
	}
	for _, many := range []int{12 + 1<<8, 12 + 1<<16, 1 << 20, 12 << 20, 12 + 1<<20} {
		holdNoForm(t, make([]byte, many))
	}
	halt := append([]byte{1}, make([]byte, 23)...)
	holdNoForm(t, halt[:11])
	holdNoForm(t, halt[:13])
	holdNoForm(t, halt)
	holdGet(t, halt[:12], api.Instr{Op: 1})
	holdNoForm(t, halt[:0])
}

// P10.3: what may be, put, is got.
func TestThereAndBack(t *testing.T) {
	c := chance(9)
	for _, a := range ordinary() {
		if a.roots == 0 || a.slots == 0 {
			continue
		}
		for range 3000 {
			x := c.mayBe(a)
			holdCheck(t, x, a, api.OK)
			holdGet(t, instr.Put(x), x)
		}
	}
	for n := 1; n <= 25; n++ {
		for i := range 4 * 4 * 4 * 17 {
			x := api.Instr{Op: n, A: i % 4, B: i / 4 % 4, C: i / 16 % 4, N: int64(i / 64)}
			if instr.Check(x, api.Prog{Roots: 4, Slots: 2}, 16) == api.OK {
				holdGet(t, instr.Put(x), x)
			}
		}
	}
	for _, v := range beside(16) {
		x := api.Instr{Op: api.OpSet, A: 3, N: v}
		holdCheck(t, x, about{}, api.OK)
		holdGet(t, instr.Put(x), x)
	}
}

// P10.3 and P10.2: what is got, put, is the octets, whatever they are.
func TestOctetsThereAndBack(t *testing.T) {
	c := chance(10)
	for range 100000 {
		b := c.octets(12)
		if c.next(2) == 0 {
			b[0] = byte(c.next(27))
		}
		x, err := instr.Get(b)
		if got := instr.Put(x); err != api.OK || !bytes.Equal(got, b) {
			t.Fatalf("Put(Get(%v)) = %v, %d", b, got, err)
		}
	}
}

// P10.2: Get of Put of any instruction is what there is of it in its octets.
func TestAnyThereAndBack(t *testing.T) {
	c := chance(11)
	for range 100000 {
		x := c.any()
		want := api.Instr{Op: x.Op & 255, A: x.A & 255, B: x.B & 255, C: x.C & 255, N: x.N}
		holdGet(t, instr.Put(x), want)
	}
}

// P2: octets that are answered share memory with no other answer, nor have they room in which another one stands.
func TestPutMemory(t *testing.T) {
	x := api.Instr{Op: 16, A: 1, B: 2, C: 3, N: -4}
	want := wantsOctets(x)
	first, second := instr.Put(x), instr.Put(x)
	for i := range first {
		first[i] = 99
	}
	if !bytes.Equal(second, want) {
		t.Errorf("the second answer is %v", second)
	}
	_ = append(second[:0:cap(second)], bytes.Repeat([]byte{77}, cap(second))...)
	third := instr.Put(x)
	if !bytes.Equal(first, bytes.Repeat([]byte{99}, 12)) || !bytes.Equal(third, want) {
		t.Errorf("the first answer is %v, the third %v", first, third)
	}
	_ = append(third, 1, 2, 3, 4)
	holdPut(t, x, want)
	holdPut(t, api.Instr{}, make([]byte, 12))
}

// P2: octets that are handed in are not changed, nor is what stands behind them, and they are not kept.
func TestGetMemory(t *testing.T) {
	whole := []byte{16, 1, 2, 3, 0, 0, 0, 0, 0, 0, 0, 1, 50, 51, 52, 53}
	kept := bytes.Clone(whole)
	x, err := instr.Get(whole[:12])
	holdNoForm(t, whole[:11])
	holdNoForm(t, whole)
	if !bytes.Equal(whole, kept) {
		t.Errorf("the octets are %v", whole)
	}
	for i := range whole {
		whole[i] = 25
	}
	if want := (api.Instr{Op: 16, A: 1, B: 2, C: 3, N: 1}); x != want || err != api.OK {
		t.Errorf("the instruction is %s", told(x))
	}
	holdGet(t, whole[:12], wantsInstr(whole))
	holdGet(t, kept[:12], api.Instr{Op: 16, A: 1, B: 2, C: 3, N: 1})
}

// P2: a program that is handed in is not changed and not kept.
func TestCheckMemory(t *testing.T) {
	code := [][]api.Instr{{{Op: 8, N: 1}, {Op: 1}}, nil}
	p := api.Prog{Roots: 2, Cells: 3, Slots: 1, Code: code}
	for n := range 27 {
		instr.Check(api.Instr{Op: n, A: 1, B: 1, N: 1}, p, 2)
	}
	if len(code) != 2 || len(code[0]) != 2 || code[0][0] != (api.Instr{Op: 8, N: 1}) || code[0][1] != (api.Instr{Op: 1}) || code[1] != nil {
		t.Errorf("the code is %v", code)
	}
	look := api.Instr{Op: api.OpLook, B: 1}
	holdCheck(t, look, about{roots: 2}, api.OK)
	holdCheck(t, look, about{roots: 1}, api.ErrRange)
	holdCheck(t, look, about{roots: 2}, api.OK)
}

// P3: what a call answers hangs on its arguments alone, whatever came ahead of it.
func TestNothingElse(t *testing.T) {
	c := chance(12)
	all := append(ordinary(), strange()...)
	for range 50000 {
		switch c.next(4) {
		case 0:
			hold(t, api.Instr{Op: c.next(27), A: c.next(5), B: c.next(5), N: c.near()}, all[c.next(len(all))])
		case 1:
			x := c.any()
			holdPut(t, x, wantsOctets(x))
		case 2:
			b := c.octets(12)
			holdGet(t, b, wantsInstr(b))
		default:
			holdNoForm(t, c.octets(c.next(12)))
		}
	}
}

// P3: calls of many goroutines answer as those of one.
func TestTogether(t *testing.T) {
	var wait sync.WaitGroup
	said := make([]string, 8)
	for i := range said {
		wait.Go(func() {
			c := chance(100 + i)
			for range 5000 {
				x := c.mayBe(about{4, 2, 16})
				got, err := instr.Get(instr.Put(x))
				if got != x || err != api.OK {
					said[i] = "Get(Put(" + told(x) + ")) = " + told(got)
				}
				if s := wrong(x, about{c.next(5), c.next(3), c.next(17)}); s != "" {
					said[i] = s
				}
			}
		})
	}
	wait.Wait()
	for _, s := range said {
		if s != "" {
			t.Error(s)
		}
	}
}

// P1: none of the calls panics, and each ends, whatever it is given.
func TestAnything(t *testing.T) {
	ends := []int64{math.MinInt64, math.MinInt64 + 1, -1, 0, 1, math.MaxInt64 - 1, math.MaxInt64}
	for _, a := range strange() {
		for _, n := range append(noOps(), 1, 2, 8, 9, 12, 13, 16, 21, 22, 25) {
			for _, v := range ends {
				hold(t, api.Instr{Op: n, A: int(v), B: int(v), C: int(v), N: v}, a)
				hold(t, api.Instr{Op: n, N: v}, a)
			}
		}
		for n := 1; n <= 25; n++ {
			for i := range 4 {
				for _, v := range ends {
					hold(t, with(api.Instr{Op: n}, i, v), a)
				}
			}
		}
	}
	holdCheck(t, api.Instr{}, about{}, api.ErrKind)
	holdNoForm(t, make([]byte, 1<<24))
}
