package prog_test

import (
	"bytes"
	"encoding/binary"
	"fmt"
	"math"
	"slices"
	"sync"
	"testing"

	"warrener/api"
	"warrener/prog"
)

// page is what the document says of each instruction, by its number: the letters of A, B, C and N.
var page = [26]string{
	1: "----", 2: "r--n", 3: "rr--", 4: "rrr-", 5: "rrr-", 6: "rrr-", 7: "rrr-",
	8: "---t", 9: "r--t", 10: "rr-t",
	11: "rg--", 12: "gr--", 13: "rrrg", 14: "rr-f", 15: "rr-f", 16: "rrrf", 17: "----",
	18: "r---", 19: "r---", 20: "r---", 21: "r--s", 22: "---s", 23: "----", 24: "----", 25: "----",
}

var (
	halt = api.Instr{Op: api.OpHalt}
	none = api.Instr{Op: 26}
	off  = api.Instr{Op: api.OpNew, A: 4}
)

// far are numbers of all widths that are from 0 to most in no program, though some are in their lowest bits.
func far(most int) []int {
	l := []int{-1, -2, -128, -255, -256, most + 1, most + 2, 83, 127, 128, 255, math.MinInt, math.MinInt + 1, math.MaxInt, math.MaxInt - 1}
	for n := range most + 1 {
		for _, w := range []int{3, 8, 16, 31, 32, 48, 62, 63} {
			l = append(l, n+1<<w, n-1<<w)
		}
	}
	return l
}

// halts is code of so many instructions that may be everywhere.
func halts(many int) []api.Instr {
	code := make([]api.Instr, many)
	for i := range code {
		code[i] = halt
	}
	return code
}

// threads is a program of nothing but code.
func threads(l ...[]api.Instr) api.Prog {
	return api.Prog{Code: l}
}

// greatest is a program that has as much of all as there may be, no two instructions of which are one.
func greatest() api.Prog {
	p := api.Prog{Roots: 4, Cells: 6, Slots: 2}
	for i := range 4 {
		var code []api.Instr
		for j := range 16 {
			code = append(code, api.Instr{Op: api.OpSet, A: i, N: int64(j) - 7<<(4*j)})
		}
		p.Code = append(p.Code, code)
	}
	p.Code[0][0] = api.Instr{Op: api.OpJump, N: 16}
	p.Code[1][1] = api.Instr{Op: api.OpSwap, A: 1, B: 2, C: 3, N: 3}
	p.Code[2][15] = api.Instr{Op: api.OpGuard, A: 3, N: 1}
	p.Code[3][15] = api.Instr{Op: api.OpCas, A: 3, B: 3, C: 3, N: 1}
	return p
}

// some are programs that may be, the least and the greatest among them.
func some() []api.Prog {
	return []api.Prog{
		threads(nil),
		threads([]api.Instr{}),
		threads(halts(1)),
		threads(nil, nil, nil, nil),
		threads(halts(16), nil, halts(3)),
		{Roots: 4, Cells: 6, Slots: 2, Code: [][]api.Instr{nil}},
		{Roots: 1, Cells: 2, Slots: 1, Code: [][]api.Instr{
			{{Op: api.OpNew}, {Op: api.OpPut}, {Op: api.OpFree}},
			{{Op: api.OpLook, A: 1}, {Op: api.OpGuard, A: 1}, {Op: api.OpLoad, A: 2, B: 1}},
		}},
		greatest(),
	}
}

// others are programs that may not be, each with what Check tells of it.
func others() []struct {
	p    api.Prog
	want api.Errno
} {
	return []struct {
		p    api.Prog
		want api.Errno
	}{
		{api.Prog{}, api.ErrMany},
		{api.Prog{Code: [][]api.Instr{}}, api.ErrMany},
		{api.Prog{Roots: 5, Code: [][]api.Instr{nil}}, api.ErrRange},
		{api.Prog{Cells: 7, Code: [][]api.Instr{nil}}, api.ErrRange},
		{api.Prog{Slots: 3, Code: [][]api.Instr{nil}}, api.ErrRange},
		{api.Prog{Roots: math.MinInt, Cells: math.MaxInt, Slots: -1}, api.ErrRange},
		{threads(nil, nil, nil, nil, nil), api.ErrMany},
		{threads(halts(17)), api.ErrMany},
		{threads(nil, halts(40), nil), api.ErrMany},
		{threads([]api.Instr{none}), api.ErrKind},
		{threads([]api.Instr{{}}), api.ErrKind},
		{threads(halts(2), []api.Instr{halt, off}), api.ErrRange},
	}
}

// copied is a program in memory of its own.
func copied(p api.Prog) api.Prog {
	code := slices.Clone(p.Code)
	for i := range code {
		code[i] = slices.Clone(code[i])
	}
	p.Code = code
	return p
}

// same tells whether two programs are one; nil and empty lists are.
func same(p api.Prog, q api.Prog) bool {
	return p.Roots == q.Roots && p.Cells == q.Cells && p.Slots == q.Slots && slices.EqualFunc(p.Code, q.Code, slices.Equal)
}

// instrWants is what the page of instructions says of one, in code of so many.
func instrWants(x api.Instr, p api.Prog, code int) api.Errno {
	if x.Op < 1 || x.Op > 25 {
		return api.ErrKind
	}
	most := map[byte]int{'r': 3, 'g': p.Roots - 1, 's': p.Slots - 1, 'f': 1, 't': code, '-': 0}
	for i, n := range []int64{int64(x.A), int64(x.B), int64(x.C), x.N} {
		letter := page[x.Op][i]
		if letter != 'n' && (n < 0 || n > int64(most[letter])) {
			return api.ErrRange
		}
	}
	return api.OK
}

// wants is what the page says of a program.
func wants(p api.Prog) api.Errno {
	if p.Roots < 0 || p.Roots > 4 || p.Cells < 0 || p.Cells > 6 || p.Slots < 0 || p.Slots > 2 {
		return api.ErrRange
	}
	if len(p.Code) == 0 || len(p.Code) > 4 {
		return api.ErrMany
	}
	first := api.OK
	for _, code := range p.Code {
		if len(code) > 16 {
			return api.ErrMany
		}
		for _, x := range code {
			if first == api.OK {
				first = instrWants(x, p, len(code))
			}
		}
	}
	return first
}

// octets are those of a program, whether it may be or not, if its numbers have room.
func octets(p api.Prog) []byte {
	b := []byte{83, byte(p.Roots), byte(p.Cells), byte(p.Slots), byte(len(p.Code))}
	for _, code := range p.Code {
		b = append(b, byte(len(code)))
		for _, x := range code {
			b = append(b, byte(x.Op), byte(x.A), byte(x.B), byte(x.C))
			b = binary.BigEndian.AppendUint64(b, uint64(x.N))
		}
	}
	return b
}

// got is what Get answers.
type got struct {
	p   api.Prog
	at  int
	err api.Errno
}

func get(b []byte) got {
	p, at, err := prog.Get(b)
	return got{p, at, err}
}

// wrongAt is what Get answers of octets of which something is wrong there.
func wrongAt(at int, why api.Errno) got {
	return got{api.Prog{}, at, why}
}

// getWants is what the page says of octets: its words, octet by octet, each asked for in turn.
func getWants(b []byte) got {
	var p api.Prog
	most := []int{83, 4, 6, 2, 4}
	whys := []api.Errno{api.ErrForm, api.ErrRange, api.ErrRange, api.ErrRange, api.ErrMany}
	for i := range 5 {
		if i >= len(b) {
			return wrongAt(len(b), api.ErrForm)
		}
		if int(b[i]) > most[i] || i == 0 && b[i] < 83 || i == 4 && b[i] < 1 {
			return wrongAt(i, whys[i])
		}
	}
	p.Roots, p.Cells, p.Slots = int(b[1]), int(b[2]), int(b[3])
	at := 5
	for range b[4] {
		if at >= len(b) {
			return wrongAt(len(b), api.ErrForm)
		}
		many := int(b[at])
		if many > 16 {
			return wrongAt(at, api.ErrMany)
		}
		at++
		var code []api.Instr
		for range many {
			if at+12 > len(b) {
				return wrongAt(len(b), api.ErrForm)
			}
			x := api.Instr{Op: int(b[at]), A: int(b[at+1]), B: int(b[at+2]), C: int(b[at+3]), N: int64(binary.BigEndian.Uint64(b[at+4:]))}
			if err := instrWants(x, p, many); err != api.OK {
				return wrongAt(at, err)
			}
			code = append(code, x)
			at += 12
		}
		p.Code = append(p.Code, code)
	}
	if at < len(b) {
		return wrongAt(at, api.ErrForm)
	}
	return got{p, at, api.OK}
}

// chance is a row of numbers without a short beat.
type chance uint64

func (c *chance) next(below int) int {
	*c = *c*6364136223846793005 + 1442695040888963407
	return int(uint64(*c) >> 33 % uint64(below))
}

// number is one of all 64 bits, of any width.
func (c *chance) number() int64 {
	n := int64(c.next(1<<31))<<33 ^ int64(c.next(1<<31))<<11 ^ int64(c.next(1<<11))
	return n >> c.next(64)
}

// near is mostly as the number is, and else another one.
func (c *chance) near(n int) int {
	switch c.next(40) {
	case 0:
		return int(c.number())
	case 1:
		return n + 1
	case 2:
		return n - 1
	default:
		return n
	}
}

// instr is an instruction that may be in the program, in code of so many.
func (c *chance) instr(p api.Prog, code int) api.Instr {
	for {
		x := api.Instr{Op: c.next(25) + 1}
		var l [4]int64
		for i := range l {
			switch page[x.Op][i] {
			case 'r':
				l[i] = int64(c.next(4))
			case 'g':
				l[i] = int64(c.next(max(p.Roots, 1)))
			case 's':
				l[i] = int64(c.next(max(p.Slots, 1)))
			case 'f':
				l[i] = int64(c.next(2))
			case 't':
				l[i] = int64(c.next(code + 1))
			case 'n':
				l[i] = c.number()
			}
		}
		x.A, x.B, x.C, x.N = int(l[0]), int(l[1]), int(l[2]), l[3]
		if instrWants(x, p, code) == api.OK {
			return x
		}
	}
}

// prog is a program that may be.
func (c *chance) prog() api.Prog {
	p := api.Prog{Roots: c.next(5), Cells: c.next(7), Slots: c.next(3)}
	for range c.next(4) + 1 {
		code := make([]api.Instr, c.next(17))
		for i := range code {
			code[i] = c.instr(p, len(code))
		}
		p.Code = append(p.Code, code)
	}
	return p
}

// odd is a program that may mostly not be.
func (c *chance) odd() api.Prog {
	p := c.prog()
	p.Roots, p.Cells, p.Slots = c.near(p.Roots), c.near(p.Cells), c.near(p.Slots)
	for c.next(9) == 0 {
		p.Code = append(p.Code, halts(c.next(19)))
	}
	for c.next(25) == 0 {
		p.Code = nil
	}
	for _, code := range p.Code {
		for i := range code {
			x := &code[i]
			x.Op, x.A, x.B, x.C, x.N = c.near(x.Op), c.near(x.A), c.near(x.B), c.near(x.C), int64(c.near(int(x.N)))
			if c.next(3) > 0 {
				*x = c.instr(api.Prog{Roots: 1, Slots: 1}, len(code))
			}
		}
	}
	return p
}

// spoil changes octets a little.
func (c *chance) spoil(b []byte) []byte {
	b = bytes.Clone(b)
	for range c.next(3) {
		switch at := c.next(len(b) + 1); c.next(5) {
		case 0:
			b = b[:at]
		case 1:
			b = append(b, byte(c.next(256)))
		case 2:
			b = slices.Insert(b, at, byte(c.next(30)))
		default:
			if at < len(b) {
				b[at] = byte(c.next(1 << (c.next(8) + 1)))
			}
		}
	}
	return b
}

func holdCheck(t *testing.T, p api.Prog, want api.Errno) {
	t.Helper()
	if err := prog.Check(p); err != want {
		t.Fatalf("Check(%+v) = %d, want %d", p, err, want)
	}
}

func holdPut(t *testing.T, p api.Prog, want []byte, why api.Errno) {
	t.Helper()
	if b, err := prog.Put(p); !bytes.Equal(b, want) || err != why {
		t.Fatalf("Put(%+v) = %v, %d, want %v, %d", p, b, err, want, why)
	}
}

func holdGet(t *testing.T, b []byte, want got) {
	t.Helper()
	if g := get(b); !same(g.p, want.p) || g.at != want.at || g.err != want.err {
		t.Fatalf("Get(%v) = %+v, want %+v", b[:min(len(b), 800)], g, want)
	}
}

func holdSize(t *testing.T, p api.Prog, want int) {
	t.Helper()
	if n := prog.Size(p); n != want {
		t.Fatalf("Size of %d threads = %d, want %d", len(p.Code), n, want)
	}
}

func holdClone(t *testing.T, p api.Prog) {
	t.Helper()
	if q := prog.Clone(p); !same(p, q) {
		t.Fatalf("Clone(%+v) = %+v", p, q)
	}
}

// P11.1: programs that may be, from the least to the greatest.
func TestMayBe(t *testing.T) {
	for _, p := range some() {
		holdCheck(t, p, api.OK)
	}
	for i := range 5 * 7 * 3 {
		p := api.Prog{Roots: i % 5, Cells: i / 5 % 7, Slots: i / 35}
		for many := 1; many <= 4; many++ {
			p.Code = make([][]api.Instr, many)
			holdCheck(t, p, api.OK)
			for n := range 17 {
				p.Code[many-1] = halts(n)
				holdCheck(t, p, api.OK)
				p.Code[0] = halts(16)
				holdCheck(t, p, api.OK)
			}
		}
	}
}

// P11.1: roots, cells and slots of which there are fewer or more than there may be.
func TestNumbers(t *testing.T) {
	for _, p := range some() {
		for _, n := range far(4) {
			p := p
			p.Roots = n
			if n < 0 || n > 4 {
				holdCheck(t, p, api.ErrRange)
			}
		}
		for _, n := range far(6) {
			p := p
			p.Cells = n
			if n < 0 || n > 6 {
				holdCheck(t, p, api.ErrRange)
			}
		}
		for _, n := range far(2) {
			p := p
			p.Slots = n
			if n < 0 || n > 2 {
				holdCheck(t, p, api.ErrRange)
			}
		}
	}
	for _, p := range []api.Prog{{Roots: -1}, {Roots: 5}, {Cells: -1}, {Cells: 7}, {Slots: -1}, {Slots: 3}, {Roots: math.MinInt}, {Roots: math.MaxInt}, {Cells: math.MinInt}, {Cells: math.MaxInt}, {Slots: math.MinInt}, {Slots: math.MaxInt}} {
		p.Code = [][]api.Instr{nil}
		holdCheck(t, p, api.ErrRange)
	}
}

// P11.1: no thread, and more threads than there may be.
func TestThreads(t *testing.T) {
	for _, p := range []api.Prog{{}, {Roots: 4, Cells: 6, Slots: 2}} {
		p.Code = nil
		holdCheck(t, p, api.ErrMany)
		p.Code = [][]api.Instr{}
		holdCheck(t, p, api.ErrMany)
		for _, many := range []int{5, 6, 16, 17, 255, 256, 257, 260, 1 << 16, 1<<16 + 1} {
			p.Code = make([][]api.Instr, many)
			holdCheck(t, p, api.ErrMany)
			p.Code[0], p.Code[many-1] = halts(2), halts(16)
			holdCheck(t, p, api.ErrMany)
		}
	}
}

// P11.1: a thread of more instructions than there may be, wherever it stands.
func TestCode(t *testing.T) {
	for many := 1; many <= 4; many++ {
		for i := range many {
			for _, n := range []int{17, 18, 32, 255, 256, 257, 272, 1 << 16} {
				p := threads(make([][]api.Instr, many)...)
				p.Code[i] = halts(n)
				holdCheck(t, p, api.ErrMany)
				for j := range many {
					if j != i {
						p.Code[j] = halts(16)
					}
				}
				holdCheck(t, p, api.ErrMany)
			}
		}
	}
}

// P11.1: an instruction that may not be, in each place of each thread.
func TestInstrs(t *testing.T) {
	for many := 1; many <= 4; many++ {
		for i := range many {
			for n := 1; n <= 16; n++ {
				for j := range n {
					p := threads(halts(3), nil, halts(16), halts(1))
					p.Code = p.Code[:many]
					p.Code[i] = halts(n)
					holdCheck(t, p, api.OK)
					p.Code[i][j] = none
					holdCheck(t, p, api.ErrKind)
					p.Code[i][j] = api.Instr{}
					holdCheck(t, p, api.ErrKind)
					p.Code[i][j] = off
					holdCheck(t, p, api.ErrRange)
				}
			}
		}
	}
}

// P11.1: of each instruction an operand that is not as told, and one that is.
func TestOperands(t *testing.T) {
	for n := 1; n <= 25; n++ {
		for i := range 4 {
			for v := int64(-1); v <= 5; v++ {
				l := [4]int64{}
				l[i] = v
				x := api.Instr{Op: n, A: int(l[0]), B: int(l[1]), C: int(l[2]), N: l[3]}
				for roots := range 5 {
					for slots := range 3 {
						p := api.Prog{Roots: roots, Slots: slots, Code: [][]api.Instr{halts(4), {halt, x, halt}, halts(5)}}
						holdCheck(t, p, instrWants(x, p, 3))
					}
				}
			}
		}
	}
	look := api.Prog{Roots: 2, Cells: 6, Slots: 1, Code: [][]api.Instr{{{Op: api.OpLook, B: 1}}}}
	holdCheck(t, look, api.OK)
	look.Code[0][0].B = 2
	holdCheck(t, look, api.ErrRange)
	look.Code[0][0] = api.Instr{Op: api.OpClear, N: 1}
	holdCheck(t, look, api.ErrRange)
	look.Slots = 2
	holdCheck(t, look, api.OK)
}

// P11.1: a place in the code is one of the thread's own, the end among them.
func TestPlaces(t *testing.T) {
	jump := func(n int64) []api.Instr {
		return []api.Instr{{Op: api.OpJump, N: n}, halt}
	}
	for _, beside := range [][]api.Instr{nil, halts(1), halts(2), halts(3), halts(16)} {
		for n := int64(-1); n <= 17; n++ {
			want := api.ErrRange
			if n >= 0 && n <= 2 {
				want = api.OK
			}
			holdCheck(t, threads(jump(n)), want)
			holdCheck(t, threads(jump(n), beside), want)
			holdCheck(t, threads(beside, jump(n)), want)
			holdCheck(t, threads(beside, jump(n), beside, beside), want)
		}
	}
	all := threads(halts(16), halts(3), halts(1), halts(7))
	for i, code := range all.Code {
		for j := range code {
			code[j] = api.Instr{Op: api.OpZero, N: int64(len(code))}
			holdCheck(t, all, api.OK)
			code[j].N++
			holdCheck(t, all, api.ErrRange)
			code[j].N = int64(len(all.Code[(i+1)%4]))
			holdCheck(t, all, wants(all))
			code[j] = halt
		}
	}
}

// P11.1: roots, cells and slots are told first, then how many threads, then how many instructions of any thread, then the instructions, one by one.
func TestFirst(t *testing.T) {
	long, five := halts(17), make([][]api.Instr, 5)
	bad := slices.Repeat([]api.Instr{none}, 17)
	many := []struct {
		p    api.Prog
		want api.Errno
	}{
		{api.Prog{Roots: 5}, api.ErrRange},
		{api.Prog{Cells: 7}, api.ErrRange},
		{api.Prog{Slots: 3}, api.ErrRange},
		{api.Prog{Roots: -1, Code: five}, api.ErrRange},
		{api.Prog{Cells: -1, Code: five}, api.ErrRange},
		{api.Prog{Slots: -1, Code: five}, api.ErrRange},
		{api.Prog{Roots: 5, Code: [][]api.Instr{long}}, api.ErrRange},
		{api.Prog{Cells: 7, Code: [][]api.Instr{long}}, api.ErrRange},
		{api.Prog{Slots: 3, Code: [][]api.Instr{long}}, api.ErrRange},
		{api.Prog{Roots: 5, Code: [][]api.Instr{{none}}}, api.ErrRange},
		{api.Prog{Cells: 7, Code: [][]api.Instr{{none}}}, api.ErrRange},
		{api.Prog{Slots: 3, Code: [][]api.Instr{{none}}}, api.ErrRange},
		{threads([]api.Instr{none}, nil, nil, nil, nil), api.ErrMany},
		{threads([]api.Instr{off}, nil, nil, nil, nil), api.ErrMany},
		{threads(long, long, long, long, long), api.ErrMany},
		{threads([]api.Instr{none}, long), api.ErrMany},
		{threads([]api.Instr{off}, long), api.ErrMany},
		{threads([]api.Instr{none}, nil, nil, long), api.ErrMany},
		{threads([]api.Instr{off}, []api.Instr{none}, nil, long), api.ErrMany},
		{threads(long, []api.Instr{none}), api.ErrMany},
		{threads(long, []api.Instr{off}), api.ErrMany},
		{threads(bad), api.ErrMany},
		{threads([]api.Instr{off}, bad), api.ErrMany},
		{threads([]api.Instr{none, off}), api.ErrKind},
		{threads([]api.Instr{off, none}), api.ErrRange},
		{threads([]api.Instr{halt, halt, none}, []api.Instr{off}), api.ErrKind},
		{threads([]api.Instr{halt, halt, off}, []api.Instr{none}), api.ErrRange},
		{threads([]api.Instr{off}, []api.Instr{halt, none}), api.ErrRange},
		{threads(halts(3), nil, []api.Instr{halt, off}, []api.Instr{none}), api.ErrRange},
		{threads(halts(3), nil, []api.Instr{halt, none}, []api.Instr{off}), api.ErrKind},
		{threads([]api.Instr{{Op: 0, A: 9, B: -1, C: 8, N: 7}}), api.ErrKind},
	}
	for _, c := range many {
		holdCheck(t, c.p, c.want)
		holdPut(t, c.p, nil, c.want)
	}
}

// P11.1: programs by chance, Put of them, Size and Clone.
func TestByChance(t *testing.T) {
	c, seen := chance(1), map[api.Errno]int{}
	for i := range 60000 {
		p := c.odd()
		if i%4 == 0 {
			p = c.prog()
		}
		want := wants(p)
		seen[want]++
		holdCheck(t, p, want)
		if want == api.OK {
			holdPut(t, p, octets(p), api.OK)
		} else {
			holdPut(t, p, nil, want)
		}
		holdSize(t, p, len(octets(p)))
		holdClone(t, p)
	}
	for _, err := range []api.Errno{api.OK, api.ErrKind, api.ErrRange, api.ErrMany} {
		if seen[err] < 1000 {
			t.Errorf("just %d programs of %d", seen[err], err)
		}
	}
}

// P11.1: Put, octet by octet, from the chapter's example on.
func TestPut(t *testing.T) {
	cases := []struct {
		p    api.Prog
		want []byte
	}{
		{threads(nil), []byte{83, 0, 0, 0, 1, 0}},
		{threads([]api.Instr{}), []byte{83, 0, 0, 0, 1, 0}},
		{threads(nil, nil, nil, nil), []byte{83, 0, 0, 0, 4, 0, 0, 0, 0}},
		{api.Prog{Roots: 4, Cells: 6, Slots: 2, Code: [][]api.Instr{nil, nil}}, []byte{83, 4, 6, 2, 2, 0, 0}},
		{api.Prog{Roots: 1, Cells: 2, Slots: 0, Code: [][]api.Instr{nil}}, []byte{83, 1, 2, 0, 1, 0}},
		{threads(halts(1)), []byte{83, 0, 0, 0, 1, 1, 1, 0, 0, 0, 0, 0, 0, 0, 0, 0, 0, 0}},
		{
			api.Prog{Roots: 2, Cells: 3, Slots: 1, Code: [][]api.Instr{
				{{Op: api.OpSet, A: 3, N: -2}, {Op: api.OpCas, A: 1, B: 2, C: 3, N: 1}},
				nil,
				{{Op: api.OpPut, A: 1, B: 2}},
			}},
			[]byte{
				83, 2, 3, 1, 3,
				2,
				2, 3, 0, 0, 255, 255, 255, 255, 255, 255, 255, 254,
				16, 1, 2, 3, 0, 0, 0, 0, 0, 0, 0, 1,
				0,
				1,
				12, 1, 2, 0, 0, 0, 0, 0, 0, 0, 0, 0,
			},
		},
		{threads([]api.Instr{{Op: api.OpSet, N: math.MinInt64}, {Op: api.OpSet, N: 0x0102030405060708}}), []byte{
			83, 0, 0, 0, 1, 2,
			2, 0, 0, 0, 128, 0, 0, 0, 0, 0, 0, 0,
			2, 0, 0, 0, 1, 2, 3, 4, 5, 6, 7, 8,
		}},
	}
	for _, c := range cases {
		holdPut(t, c.p, c.want, api.OK)
		holdGet(t, c.want, got{c.p, len(c.want), api.OK})
	}
	for _, p := range some() {
		holdPut(t, p, octets(p), api.OK)
	}
	if b, _ := prog.Put(greatest()); len(b) != 777 || b[0] != 83 || b[4] != 4 || b[5] != 16 || b[198] != 16 || b[776] != 1 {
		t.Errorf("the greatest program is %v", b)
	}
}

// P11.1: Put of what may not be is Check's error, and no octets.
func TestPutNone(t *testing.T) {
	for _, c := range others() {
		holdCheck(t, c.p, c.want)
		holdPut(t, c.p, nil, c.want)
	}
	for i := range 3 {
		for _, n := range far([]int{4, 6, 2}[i]) {
			l := [3]int{}
			l[i] = n
			p := api.Prog{Roots: l[0], Cells: l[1], Slots: l[2], Code: [][]api.Instr{nil}}
			if wants(p) != api.OK {
				holdPut(t, p, nil, api.ErrRange)
			}
		}
	}
}

// P11.1: Size of what may be, which is how many octets Put answers, and of what may not be.
func TestSize(t *testing.T) {
	for _, p := range some() {
		b, _ := prog.Put(p)
		holdSize(t, p, len(b))
	}
	for _, c := range others() {
		holdSize(t, c.p, len(octets(c.p)))
	}
	cases := []struct {
		code [][]api.Instr
		want int
	}{
		{nil, 5}, {[][]api.Instr{}, 5}, {[][]api.Instr{nil}, 6}, {[][]api.Instr{{}}, 6}, {[][]api.Instr{halts(1)}, 18},
		{[][]api.Instr{halts(16)}, 198}, {[][]api.Instr{halts(17)}, 210}, {[][]api.Instr{nil, halts(2), nil}, 32},
		{[][]api.Instr{halts(16), halts(16), halts(16), halts(16)}, 777}, {make([][]api.Instr, 5), 10}, {make([][]api.Instr, 300), 305},
		{[][]api.Instr{make([]api.Instr, 300)}, 3606}, {[][]api.Instr{{none, off}}, 30}, {make([][]api.Instr, 1<<20), 1<<20 + 5},
		{[][]api.Instr{make([]api.Instr, 1<<18), nil, make([]api.Instr, 1<<17)}, 12*(1<<18+1<<17) + 8},
	}
	for _, c := range cases {
		holdSize(t, api.Prog{Code: c.code}, c.want)
		for _, n := range far(6) {
			holdSize(t, api.Prog{Roots: n, Cells: -n, Slots: n / 2, Code: c.code[:min(len(c.code), 3)]}, len(octets(api.Prog{Code: c.code[:min(len(c.code), 3)]})))
		}
	}
}

// P11.1: Clone of what may be, and of what may not be.
func TestClone(t *testing.T) {
	for _, p := range some() {
		holdClone(t, p)
	}
	for _, c := range others() {
		holdClone(t, c.p)
	}
	for _, n := range far(6) {
		holdClone(t, api.Prog{Roots: n, Cells: n + 1, Slots: n - 1, Code: [][]api.Instr{{{Op: n, A: -n, B: n / 2, C: n / 3, N: int64(n) ^ 1}}}})
	}
	holdClone(t, api.Prog{Code: make([][]api.Instr, 1000)})
	holdClone(t, threads(halts(1000), nil, []api.Instr{}, halts(1)))
	holdClone(t, threads([]api.Instr{}, nil, []api.Instr{}))
	if q := prog.Clone(threads(nil, []api.Instr{}, halts(1))); len(q.Code) != 3 || len(q.Code[0]) != 0 || len(q.Code[1]) != 0 || len(q.Code[2]) != 1 {
		t.Errorf("the clone is %+v", q)
	}
}

// P11.2: the octets of what may be.
func TestGet(t *testing.T) {
	for _, p := range some() {
		b := octets(p)
		holdGet(t, b, got{p, len(b), api.OK})
	}
	for i := range 5 * 7 * 3 * 4 {
		b := []byte{83, byte(i % 5), byte(i / 5 % 7), byte(i / 35 % 3), byte(i/105 + 1)}
		p := api.Prog{Roots: int(b[1]), Cells: int(b[2]), Slots: int(b[3]), Code: make([][]api.Instr, b[4])}
		b = append(b, make([]byte, b[4])...)
		holdGet(t, b, got{p, len(b), api.OK})
	}
	for n := range 17 {
		p := threads(halts(n), halts(16-n))
		holdGet(t, octets(p), got{p, 7 + 12*16, api.OK})
	}
	least := get([]byte{83, 0, 0, 0, 1, 0})
	if least.err != api.OK || least.at != 6 || len(least.p.Code) != 1 || len(least.p.Code[0]) != 0 {
		t.Errorf("the least program is %+v", least)
	}
}

// P11.2: no octets, and octets that are cut off at each place.
func TestCutOff(t *testing.T) {
	holdGet(t, nil, wrongAt(0, api.ErrForm))
	holdGet(t, []byte{}, wrongAt(0, api.ErrForm))
	for _, p := range some() {
		b := octets(p)
		for n := range b {
			holdGet(t, b[:n], wrongAt(n, api.ErrForm))
			holdGet(t, b[:n:n], wrongAt(n, api.ErrForm))
		}
	}
	c := chance(2)
	for range 300 {
		b := octets(c.prog())
		for n := range b {
			holdGet(t, b[:n], wrongAt(n, api.ErrForm))
		}
	}
}

// P11.2: a first octet that is another one.
func TestFirstOctet(t *testing.T) {
	for _, p := range some() {
		b := octets(p)
		for n := range 256 {
			if n == 83 {
				continue
			}
			b[0] = byte(n)
			holdGet(t, b, wrongAt(0, api.ErrForm))
			holdGet(t, b[:1], wrongAt(0, api.ErrForm))
			holdGet(t, []byte{byte(n), 255, 255, 255, 255, 255, 255}, wrongAt(0, api.ErrForm))
		}
	}
}

// P11.2: too many roots, cells, slots, threads and instructions, and no thread, each at its octet.
func TestTooMany(t *testing.T) {
	for n := range 256 {
		v := byte(n)
		if n > 4 {
			holdGet(t, []byte{83, v, 0, 0, 1, 0}, wrongAt(1, api.ErrRange))
			holdGet(t, []byte{83, v}, wrongAt(1, api.ErrRange))
			holdGet(t, []byte{83, v, 255, 255, 255, 255}, wrongAt(1, api.ErrRange))
			holdGet(t, append([]byte{83, 4, 6, 2, v}, make([]byte, n)...), wrongAt(4, api.ErrMany))
			holdGet(t, []byte{83, 0, 0, 0, v}, wrongAt(4, api.ErrMany))
		}
		if n > 6 {
			holdGet(t, []byte{83, 4, v, 0, 1, 0}, wrongAt(2, api.ErrRange))
			holdGet(t, []byte{83, 0, v}, wrongAt(2, api.ErrRange))
			holdGet(t, []byte{83, 0, v, 255, 0, 255}, wrongAt(2, api.ErrRange))
		}
		if n > 2 {
			holdGet(t, []byte{83, 4, 6, v, 1, 0}, wrongAt(3, api.ErrRange))
			holdGet(t, []byte{83, 0, 0, v}, wrongAt(3, api.ErrRange))
			holdGet(t, []byte{83, 0, 0, v, 0}, wrongAt(3, api.ErrRange))
		}
		if n > 16 {
			long := append([]byte{83, 0, 0, 0, 1, v}, octets(threads(halts(n)))[6:]...)
			holdGet(t, long, wrongAt(5, api.ErrMany))
			holdGet(t, long[:6], wrongAt(5, api.ErrMany))
			for _, ahead := range []int{0, 1, 16} {
				p := threads(halts(ahead), halts(n), halts(1))
				holdGet(t, octets(p), wrongAt(6+12*ahead, api.ErrMany))
			}
			last := octets(threads(nil, halts(2), nil, halts(n)))
			holdGet(t, last, wrongAt(5+3+24, api.ErrMany))
			holdGet(t, last[:33], wrongAt(5+3+24, api.ErrMany))
		}
	}
	for _, b := range [][]byte{{83, 0, 0, 0, 0}, {83, 4, 6, 2, 0}, {83, 0, 0, 0, 0, 0}, {83, 1, 1, 1, 0, 255, 255}} {
		holdGet(t, b, wrongAt(4, api.ErrMany))
	}
}

// P11.2: an instruction that may not be is told at its first octet, if all of it is there; else what lacks is told.
func TestGetInstrs(t *testing.T) {
	wrong := []struct {
		x    api.Instr
		want api.Errno
	}{
		{none, api.ErrKind}, {api.Instr{}, api.ErrKind}, {api.Instr{Op: 255, A: 255, B: 255, C: 255, N: -1}, api.ErrKind},
		{off, api.ErrRange}, {api.Instr{Op: api.OpHalt, N: 1}, api.ErrRange}, {api.Instr{Op: api.OpHalt, N: -1}, api.ErrRange},
		{api.Instr{Op: api.OpJump, N: 17}, api.ErrRange}, {api.Instr{Op: api.OpJump, N: math.MinInt64}, api.ErrRange},
		{api.Instr{Op: api.OpLook, B: 1}, api.ErrRange}, {api.Instr{Op: api.OpClear, N: 1}, api.ErrRange}, {api.Instr{Op: api.OpCopy, A: 255}, api.ErrRange},
	}
	for _, w := range wrong {
		for i := range 4 {
			for j := range 5 {
				p := api.Prog{Roots: 1, Slots: 1, Code: [][]api.Instr{halts(5), halts(5), halts(5), halts(5)}}
				p.Code[i][j] = w.x
				b, at := octets(p), 5+61*i+1+12*j
				holdGet(t, b, wrongAt(at, w.want))
				for n := at; n < len(b); n++ {
					want := wrongAt(at, w.want)
					if n < at+12 {
						want = wrongAt(n, api.ErrForm)
					}
					holdGet(t, b[:n], want)
				}
			}
		}
	}
}

// P11.2: operands are held against the program's own roots and slots, and against how many instructions their own thread has.
func TestGetOperands(t *testing.T) {
	for n := 1; n <= 25; n++ {
		for i := range 4 {
			for v := range int64(5) {
				l := [4]int64{}
				l[i] = v
				x := api.Instr{Op: n, A: int(l[0]), B: int(l[1]), C: int(l[2]), N: l[3]}
				for roots := range 5 {
					for slots := range 3 {
						p := api.Prog{Roots: roots, Cells: 6 - slots, Slots: slots, Code: [][]api.Instr{halts(4), {halt, x, halt}, halts(5)}}
						want := got{p, len(octets(p)), api.OK}
						if err := instrWants(x, p, 3); err != api.OK {
							want = wrongAt(5+1+48+1+12, err)
						}
						holdGet(t, octets(p), want)
					}
				}
			}
		}
	}
}

// P11.2: octets that are left behind the last thread.
func TestLeft(t *testing.T) {
	c := chance(3)
	for _, p := range some() {
		b := octets(p)
		for _, many := range []int{1, 2, 11, 12, 13, 255, 256, 777, 778, 1 << 16, 1 << 20} {
			holdGet(t, append(bytes.Clone(b), make([]byte, many)...), wrongAt(len(b), api.ErrForm))
		}
		for v := range 256 {
			holdGet(t, append(bytes.Clone(b), byte(v)), wrongAt(len(b), api.ErrForm))
		}
		holdGet(t, append(bytes.Clone(b), b...), wrongAt(len(b), api.ErrForm))
	}
	for range 2000 {
		b := octets(c.prog())
		n := len(b)
		for range c.next(9) + 1 {
			b = append(b, byte(c.next(256)))
		}
		holdGet(t, b, wrongAt(n, api.ErrForm))
	}
}

// P11.2: where several things are wrong, the one furthest ahead is told.
func TestFurthestAhead(t *testing.T) {
	kind, out := octets(threads([]api.Instr{none}))[6:], octets(threads([]api.Instr{off}))[6:]
	cases := []struct {
		b    []byte
		want got
	}{
		{[]byte{82, 5, 7, 3, 0, 17}, wrongAt(0, api.ErrForm)},
		{[]byte{83, 5, 7, 3, 0, 17}, wrongAt(1, api.ErrRange)},
		{[]byte{83, 4, 7, 3, 0, 17}, wrongAt(2, api.ErrRange)},
		{[]byte{83, 4, 6, 3, 0, 17}, wrongAt(3, api.ErrRange)},
		{[]byte{83, 4, 6, 2, 0, 17}, wrongAt(4, api.ErrMany)},
		{[]byte{83, 4, 6, 2, 5, 17}, wrongAt(4, api.ErrMany)},
		{[]byte{83, 4, 6, 2, 4, 17}, wrongAt(5, api.ErrMany)},
		{[]byte{83, 4, 6, 2, 4, 16}, wrongAt(6, api.ErrForm)},
		{[]byte{83, 5}, wrongAt(1, api.ErrRange)},
		{[]byte{83, 0, 7, 9}, wrongAt(2, api.ErrRange)},
		{slices.Concat([]byte{83, 0, 0, 0, 2, 1}, kind, []byte{17}), wrongAt(6, api.ErrKind)},
		{slices.Concat([]byte{83, 0, 0, 0, 2, 1}, out, []byte{17}), wrongAt(6, api.ErrRange)},
		{slices.Concat([]byte{83, 0, 0, 0, 2, 2}, out, kind, []byte{17}), wrongAt(6, api.ErrRange)},
		{slices.Concat([]byte{83, 0, 0, 0, 2, 2}, kind, out, []byte{17}), wrongAt(6, api.ErrKind)},
		{slices.Concat([]byte{83, 0, 0, 0, 2, 0, 17}, kind), wrongAt(6, api.ErrMany)},
		{slices.Concat([]byte{83, 0, 0, 0, 2, 0, 1}, kind, []byte{0, 0}), wrongAt(7, api.ErrKind)},
		{slices.Concat([]byte{83, 0, 0, 0, 1, 1}, out, []byte{0, 0}), wrongAt(6, api.ErrRange)},
		{slices.Concat([]byte{83, 0, 0, 0, 1, 1}, kind[:11]), wrongAt(17, api.ErrForm)},
		{slices.Concat([]byte{83, 0, 0, 0, 1, 2}, kind, out[:5]), wrongAt(6, api.ErrKind)},
		{slices.Concat([]byte{83, 0, 0, 0, 1, 2}, out, kind[:5]), wrongAt(6, api.ErrRange)},
		{slices.Concat([]byte{83, 0, 0, 0, 1, 17}, kind), wrongAt(5, api.ErrMany)},
		{slices.Concat([]byte{83, 0, 0, 0, 1, 0}, kind), wrongAt(6, api.ErrForm)},
	}
	for _, c := range cases {
		holdGet(t, c.b, c.want)
	}
}

// P11.2: beside an error the program is an empty one.
func TestEmptyBesideErrors(t *testing.T) {
	c, seen := chance(4), map[api.Errno]int{}
	for range 20000 {
		b := c.spoil(octets(c.prog()))
		g := get(b)
		if g.err == api.OK {
			continue
		}
		seen[g.err]++
		if g.p.Roots != 0 || g.p.Cells != 0 || g.p.Slots != 0 || len(g.p.Code) != 0 {
			t.Fatalf("Get(%v) = %+v", b, g)
		}
	}
	for _, err := range []api.Errno{api.ErrForm, api.ErrKind, api.ErrRange, api.ErrMany} {
		if seen[err] < 100 {
			t.Errorf("just %d times %d", seen[err], err)
		}
	}
}

// P11.2: each octet of a program turned to each other number.
func TestEachOctet(t *testing.T) {
	p := api.Prog{Roots: 1, Cells: 2, Slots: 1, Code: [][]api.Instr{
		{{Op: api.OpNew}, {Op: api.OpSwap, A: 1, B: 2, C: 3}, {Op: api.OpSame, A: 1, B: 2, N: 3}},
		nil,
		{{Op: api.OpLook, A: 1}, {Op: api.OpGuard, A: 1}, {Op: api.OpLoad, A: 2, B: 1, N: 1}, {Op: api.OpSet, N: -5}},
	}}
	for i := range octets(p) {
		for v := range 256 {
			b := octets(p)
			b[i] = byte(v)
			holdGet(t, b, getWants(b))
		}
	}
}

// P11.2: octets by chance.
func TestGetByChance(t *testing.T) {
	c := chance(5)
	for range 60000 {
		b := c.spoil(octets(c.prog()))
		holdGet(t, b, getWants(b))
	}
	for range 60000 {
		b := make([]byte, c.next(30))
		for i := range b {
			b[i] = byte(c.next(1 << (c.next(8) + 1)))
		}
		for i, v := range []byte{83, byte(c.next(5)), byte(c.next(7)), byte(c.next(3)), byte(c.next(5))} {
			if i < len(b) && c.next(9) > 0 {
				b[i] = v
			}
		}
		holdGet(t, b, getWants(b))
	}
}

// P11.3: what is put is got.
func TestThereAndBack(t *testing.T) {
	c := chance(6)
	l := some()
	for range 20000 {
		l = append(l, c.prog())
	}
	for _, p := range l {
		b, err := prog.Put(p)
		if err != api.OK {
			t.Fatalf("Put(%+v): %d", p, err)
		}
		holdGet(t, b, got{p, prog.Size(p), api.OK})
	}
}

// P11.3: what is got, put, is the octets.
func TestOctetsThereAndBack(t *testing.T) {
	c, many := chance(7), 0
	for range 60000 {
		b := c.spoil(octets(c.prog()))
		g := get(b)
		if g.err != api.OK {
			continue
		}
		many++
		holdCheck(t, g.p, api.OK)
		holdPut(t, g.p, b, api.OK)
		if g.at != len(b) {
			t.Fatalf("Get(%v): %d octets", b, g.at)
		}
	}
	if many < 1000 {
		t.Errorf("just %d of them are a program's", many)
	}
}

// change has each number of a program another one.
func change(p api.Prog) {
	for _, code := range p.Code {
		for j := range code {
			code[j] = api.Instr{Op: 99, A: 98, B: 97, C: 96, N: 95}
		}
	}
	for i := range p.Code {
		p.Code[i] = halts(7)
	}
}

// grow writes behind the end of each list of a program, as far as it has room there.
func grow(p api.Prog) {
	for _, code := range p.Code {
		for i := range code[len(code):cap(code)] {
			code[len(code):cap(code)][i] = none
		}
	}
	for i := range p.Code[len(p.Code):cap(p.Code)] {
		p.Code[len(p.Code):cap(p.Code)][i] = halts(9)
	}
}

// P2: a clone and its origin are apart, down to each instruction.
func TestCloneMemory(t *testing.T) {
	c := chance(8)
	l := some()
	for _, o := range others() {
		l = append(l, o.p)
	}
	for range 500 {
		l = append(l, c.odd())
	}
	for _, p := range l {
		want, q, r := copied(p), prog.Clone(p), prog.Clone(p)
		change(p)
		grow(p)
		if !same(q, want) || !same(r, want) {
			t.Fatalf("the clone is %+v, and was %+v", q, want)
		}
		grow(q)
		if !same(q, want) || !same(r, want) {
			t.Fatalf("the clone is %+v behind its own end's change, and was %+v", q, want)
		}
		kept := copied(p)
		change(q)
		q.Roots, q.Cells, q.Slots = 51, 52, 53
		if !same(p, kept) || !same(r, want) {
			t.Fatalf("the origin is %+v, the other clone %+v", p, r)
		}
	}
	whole := threads(halts(5), halts(5), halts(5))
	part := api.Prog{Code: whole.Code[:1]}
	part.Code[0] = part.Code[0][:2]
	q := prog.Clone(part)
	grow(q)
	_ = append(q.Code, []api.Instr{none})
	_ = append(q.Code[0], none, none)
	if !slices.Equal(whole.Code[0][:5], halts(5)) || !slices.Equal(whole.Code[1], halts(5)) {
		t.Errorf("behind the origin stands %+v", whole.Code)
	}
}

// P2: a clone of no instructions, and of no threads, has no room in the memory of its origin.
func TestEmptyCloneMemory(t *testing.T) {
	code, all := halts(4), [][]api.Instr{halts(1), halts(2)}
	for _, p := range []api.Prog{threads(code[:0]), threads(code[2:2], code[:1], code[4:]), {Code: all[:0]}} {
		q := prog.Clone(p)
		_ = append(q.Code, []api.Instr{none})
		for _, code := range q.Code {
			_ = append(code, none)
		}
	}
	if !slices.Equal(code, halts(4)) || len(all[0]) != 1 {
		t.Errorf("the origins are %+v, %+v", code, all)
	}
}

// P2: a program that was got hangs no more on its octets, nor on another one that was got of them.
func TestGetMemory(t *testing.T) {
	c := chance(9)
	for range 500 {
		p := c.prog()
		whole := append(octets(p), 1, 2, 3, 4)
		b := whole[:len(whole)-4]
		kept := bytes.Clone(whole)
		first, second := get(b), get(b)
		if !bytes.Equal(whole, kept) {
			t.Fatalf("the octets are %v, and were %v", whole, kept)
		}
		for i := range whole {
			whole[i] = 77
		}
		if !same(first.p, p) || !same(second.p, p) {
			t.Fatalf("the program is %+v, and was %+v", first.p, p)
		}
		grow(first.p)
		if !same(first.p, p) {
			t.Fatalf("the program is %+v behind its own end's change, and was %+v", first.p, p)
		}
		change(first.p)
		if !same(second.p, p) || !bytes.Equal(whole, bytes.Repeat([]byte{77}, len(whole))) {
			t.Fatalf("the other program is %+v, and was %+v", second.p, p)
		}
		holdGet(t, kept[:len(b)], got{p, len(b), api.OK})
		for n := range 3 {
			get(kept[:n])
			get(kept)
		}
		if !bytes.Equal(kept[:len(b)], octets(p)) || !bytes.Equal(kept[len(b):], []byte{1, 2, 3, 4}) {
			t.Fatalf("the octets are %v", kept)
		}
	}
}

// P2: two answers of Put are apart, and from the program.
func TestPutMemory(t *testing.T) {
	for _, p := range some() {
		want, kept := octets(p), copied(p)
		first, _ := prog.Put(p)
		second, _ := prog.Put(p)
		for i := range first {
			first[i] = 99
		}
		_ = append(first[:0], bytes.Repeat([]byte{98}, cap(first))...)
		if !bytes.Equal(second, want) || !same(p, kept) {
			t.Fatalf("the second answer is %v, of %+v", second, p)
		}
		holdPut(t, p, want, api.OK)
		change(p)
		if !bytes.Equal(second, want) {
			t.Fatalf("the second answer is %v", second)
		}
		holdPut(t, kept, want, api.OK)
	}
}

// P2: a program that is handed in is not changed, nor what stands behind it, and not kept.
func TestHandedIn(t *testing.T) {
	l := some()
	for _, o := range others() {
		l = append(l, o.p)
	}
	for _, p := range l {
		back := [][]api.Instr{halts(3), {off}}
		p.Code = append(slices.Clip(p.Code), back...)[:len(p.Code)]
		for i := range p.Code {
			p.Code[i] = append(slices.Clip(p.Code[i]), none, off)[:len(p.Code[i])]
		}
		kept := copied(p)
		prog.Check(p)
		b, _ := prog.Put(p)
		prog.Size(p)
		q := prog.Clone(p)
		for i := range b {
			b[i] = 0
		}
		change(q)
		if !same(p, kept) {
			t.Fatalf("the program is %+v, and was %+v", p, kept)
		}
		for _, code := range p.Code {
			if behind := code[len(code) : len(code)+2]; behind[0] != none || behind[1] != off {
				t.Fatalf("behind the code stands %+v", behind)
			}
		}
		if behind := p.Code[len(p.Code) : len(p.Code)+2]; !slices.EqualFunc(behind, back, slices.Equal) {
			t.Fatalf("behind the threads stands %+v", behind)
		}
	}
}

// P2: threads that are one list, handed in, are lists apart, cloned.
func TestOneListTwice(t *testing.T) {
	code := halts(3)
	q := prog.Clone(threads(code, code, code[:2]))
	q.Code[0][0] = none
	if q.Code[1][0] != halt || q.Code[2][0] != halt || code[0] != halt {
		t.Errorf("the clone is %+v", q)
	}
	b, err := prog.Put(threads(code, code, code[:2]))
	if err != api.OK || !bytes.Equal(b, octets(threads(halts(3), halts(3), halts(2)))) {
		t.Errorf("the octets are %v", b)
	}
}

// wrong tells how the calls differ from the page for a program, and octets; nothing, if they do not.
func wrong(p api.Prog, b []byte) string {
	if err := prog.Check(p); err != wants(p) {
		return fmt.Sprintf("Check(%+v) = %d", p, err)
	}
	if n := prog.Size(p); n != len(octets(p)) {
		return fmt.Sprintf("Size(%+v) = %d", p, n)
	}
	if q := prog.Clone(p); !same(p, q) {
		return fmt.Sprintf("Clone(%+v) = %+v", p, q)
	}
	if put, err := prog.Put(p); err != wants(p) || err == api.OK && !bytes.Equal(put, octets(p)) || err != api.OK && len(put) > 0 {
		return fmt.Sprintf("Put(%+v) = %v, %d", p, put, err)
	}
	if g, want := get(b), getWants(b); !same(g.p, want.p) || g.at != want.at || g.err != want.err {
		return fmt.Sprintf("Get(%v) = %+v", b, g)
	}
	return ""
}

// P3: what a call answers hangs on its arguments alone, whatever came ahead of it.
func TestNothingElse(t *testing.T) {
	c := chance(10)
	for range 10000 {
		p, b := c.odd(), c.spoil(octets(c.prog()))
		for range 2 {
			if said := wrong(p, b); said != "" {
				t.Fatal(said)
			}
		}
	}
}

// P3: calls of many goroutines answer as those of one, of one program and one row of octets, too.
func TestTogether(t *testing.T) {
	var wait sync.WaitGroup
	one, said := greatest(), make([]string, 8)
	b := octets(one)
	for i := range said {
		wait.Go(func() {
			c := chance(100 + i)
			for range 300 {
				for _, s := range []string{wrong(one, b), wrong(c.odd(), c.spoil(octets(c.prog())))} {
					if s != "" {
						said[i] = s
					}
				}
			}
		})
	}
	wait.Wait()
	for _, s := range said {
		if s != "" {
			t.Error(s)
		}
	}
}

// P1: none of the calls panics, and each ends, whatever it is given.
func TestAnything(t *testing.T) {
	ends := []int{math.MinInt, math.MinInt + 1, -1, 0, 1, math.MaxInt - 1, math.MaxInt}
	var x [][]api.Instr
	for _, n := range ends {
		x = append(x, []api.Instr{{Op: n, A: n, B: n, C: n, N: int64(n)}, {Op: api.OpSet, N: int64(n)}})
	}
	for _, n := range ends {
		for _, code := range [][][]api.Instr{nil, {}, {nil}, x, x[:1], x[3:5], make([][]api.Instr, 1000), {make([]api.Instr, 1000)}} {
			for _, p := range []api.Prog{{Roots: n, Code: code}, {Cells: n, Code: code}, {Slots: n, Code: code}, {Roots: n, Cells: n, Slots: n, Code: code}} {
				if said := wrong(p, octets(p)); said != "" {
					t.Fatal(said)
				}
			}
		}
	}
	for _, b := range [][]byte{make([]byte, 1<<24), bytes.Repeat([]byte{83}, 1<<20), bytes.Repeat([]byte{1}, 1<<20), append([]byte{83, 4, 6, 2, 4}, make([]byte, 1<<24)...)} {
		holdGet(t, b, getWants(b))
	}
}

// FuzzGet: whatever octets there are, Get answers as the page says, and what is got, put, is the octets.
func FuzzGet(f *testing.F) {
	for _, p := range some() {
		f.Add(octets(p))
	}
	for _, o := range others() {
		f.Add(octets(o.p))
	}
	f.Fuzz(func(t *testing.T, b []byte) {
		want := getWants(b)
		holdGet(t, b, want)
		if want.err == api.OK {
			holdPut(t, want.p, b, api.OK)
		}
	})
}
