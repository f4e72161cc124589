package asm_test

import (
	"fmt"
	"math"
	"math/big"
	"regexp"
	"slices"
	"strings"
	"sync"
	"testing"
	"unsafe"

	"warrener/api"
	"warrener/asm"
	"warrener/show"
)

// page is what the document says of each instruction, by its number: its name, and the letters of A, B, C and N.
var page = [26][2]string{
	1: {"halt", "----"}, 2: {"set", "r--n"}, 3: {"copy", "rr--"},
	4: {"add", "rrr-"}, 5: {"sub", "rrr-"}, 6: {"mul", "rrr-"}, 7: {"div", "rrr-"},
	8: {"jump", "---t"}, 9: {"zero", "r--t"}, 10: {"same", "rr-t"},
	11: {"look", "rg--"}, 12: {"put", "gr--"}, 13: {"swap", "rrrg"},
	14: {"load", "rr-f"}, 15: {"store", "rr-f"}, 16: {"cas", "rrrf"}, 17: {"fence", "----"},
	18: {"new", "r---"}, 19: {"free", "r---"}, 20: {"retire", "r---"},
	21: {"guard", "r--s"}, 22: {"clear", "---s"}, 23: {"enter", "----"}, 24: {"leave", "----"}, 25: {"quiet", "----"},
}

// ends are numbers about the bounds of all widths.
var ends = []int64{
	0, 1, -1, 2, 3, 4, 9, 10, 15, 16, 17, 99, 100, 127, 128, -127, -128, 254, 255, 256, 257, -255, -256, 511, 512, 513,
	32767, 32768, 65535, 65536, 65537, math.MaxInt32, math.MaxInt32 + 1, math.MinInt32, math.MaxUint32, math.MaxUint32 + 1, math.MaxUint32 + 2,
	1<<40 + 3, 1e17, 1e18, -1e18, math.MaxInt64 - 1, math.MaxInt64, math.MinInt64 + 1, math.MinInt64, math.MinInt64 + 5,
}

// noDecimals are words that are no decimals of 64 bits.
var noDecimals = []string{
	"00", "01", "007", "0000000000000000000000", "-0", "-00", "-01", "+0", "+1", "+255", "-", "--1", "-+1", "1-", "a", "r0", "1a", "a1", "0x1", "0b1", "0o1", "1_0", "1e1", "1.0", "1.", ".5", "NaN", "Inf", "nil",
	"9223372036854775808", "-9223372036854775809", "10000000000000000000", "18446744073709551615", "18446744073709551616", "18446744073709551617", "-18446744073709551615", "99999999999999999999999999999999",
	"1\r", "\t1", "1\t", "1\v", "\x001", "1\x00", "\xff", "é", "\u0661", "1\u00a0", "\u00a01", "#1", "1#", "#", ",", "1,", "1;", "thread", "halt", "warrener",
}

// noNames are words that are no instructions' names.
var noNames = func() []string {
	l := []string{"warrener", "thread", "threads", "0", "1", "16", "25", "-1", "-", "#", "#halt", "nop", "haltset", "halt,", "halt:", "halt\r", "halt\t", "\thalt", "halt\x00", "\x00", "\xff", "é", "ｈalt", "cas\u00a0", "----", "r--n", "OpHalt", "look.", "compare"}
	for _, row := range page[1:] {
		name := row[0]
		for i := range name {
			l = append(l, name[:i]+strings.ToUpper(name[i:i+1])+name[i+1:], name[:i]+name[i+1:])
			l = append(l, name[:i+1], name[i:])
		}
		l = append(l, name+"s", name+"0", "x"+name, "0"+name, strings.ToUpper(name), name+name)
	}
	is := func(word string) bool { return word == "" || opOf(word) != 0 }
	return slices.DeleteFunc(l, is)
}()

var (
	halt = api.Instr{Op: api.OpHalt}
	jump = api.Instr{Op: api.OpJump, N: 1}
)

// halts is code of so many instructions that may be everywhere.
func halts(many int) []api.Instr {
	return slices.Repeat([]api.Instr{halt}, many)
}

// threads is a program of nothing but code.
func threads(l ...[]api.Instr) api.Prog {
	return api.Prog{Code: l}
}

// greatest is a program that has as much of all as there may be, no two instructions of which are one.
func greatest() api.Prog {
	p := api.Prog{Roots: 4, Cells: 6, Slots: 2}
	for i := range 4 {
		var code []api.Instr
		for j := range 16 {
			code = append(code, api.Instr{Op: api.OpSet, A: i, N: math.MinInt64 + int64(j)})
		}
		p.Code = append(p.Code, code)
	}
	p.Code[0][0] = api.Instr{Op: api.OpJump, N: 16}
	p.Code[1][1] = api.Instr{Op: api.OpSwap, A: 1, B: 2, C: 3, N: 3}
	p.Code[2][15] = api.Instr{Op: api.OpGuard, A: 3, N: 1}
	p.Code[3][15] = api.Instr{Op: api.OpCas, A: 3, B: 3, C: 3, N: 1}
	return p
}

// some are programs that may be, the least and the greatest among them.
func some() []api.Prog {
	return []api.Prog{
		threads(nil),
		threads(halts(1)),
		threads(nil, nil, nil, nil),
		threads(halts(16), nil, halts(3)),
		threads(nil, halts(2), nil, []api.Instr{{Op: api.OpJump}}),
		{Roots: 4, Cells: 6, Slots: 2, Code: [][]api.Instr{nil}},
		{Roots: 1, Cells: 2, Slots: 1, Code: [][]api.Instr{
			{{Op: api.OpNew}, {Op: api.OpPut}, {Op: api.OpFree}},
			{{Op: api.OpLook, A: 1}, {Op: api.OpGuard, A: 1}, {Op: api.OpFence}, {Op: api.OpLoad, A: 2, B: 1}},
		}},
		{Roots: 2, Cells: 3, Slots: 2, Code: [][]api.Instr{
			{{Op: api.OpSet, A: 3, N: -2}, {Op: api.OpCas, A: 1, B: 2, C: 3, N: 1}, {Op: api.OpZero, A: 2, N: 3}},
			nil,
			{{Op: api.OpSwap, A: 3, B: 2, C: 1, N: 1}, {Op: api.OpClear, N: 1}, {Op: api.OpSame, A: 1, B: 2}, {Op: api.OpDiv, A: 3, B: 2, C: 1}},
		}},
		greatest(),
	}
}

// opOf is the instruction of that name, or 0.
func opOf(name string) int {
	for op, row := range page {
		if op > 0 && row[0] == name {
			return op
		}
	}
	return 0
}

// needs is how many operands an instruction has.
func needs(op int) int {
	return 4 - strings.Count(page[op][1], "-")
}

// put lays numbers into the operands that an instruction has, in their order; the others are 0.
func put(op int, l []int64) [4]int64 {
	var full [4]int64
	for i := range 4 {
		if page[op][1][i] != '-' {
			full[i], l = l[0], l[1:]
		}
	}
	return full
}

// with is an instruction of those operands.
func with(op int, l [4]int64) api.Instr {
	return api.Instr{Op: op, A: int(l[0]), B: int(l[1]), C: int(l[2]), N: l[3]}
}

// operands are those of an instruction, in the order of its letters.
func operands(x api.Instr) [4]int64 {
	return [4]int64{int64(x.A), int64(x.B), int64(x.C), x.N}
}

// decimal is a number's, as a number of any size has it.
func decimal(n int64) string {
	return big.NewInt(n).String()
}

// line is an instruction's, as the page says.
func line(x api.Instr) string {
	s := page[x.Op][0]
	for i, n := range operands(x) {
		if page[x.Op][1][i] != '-' {
			s += " " + decimal(n)
		}
	}
	return s
}

// text is a program's, as the page says.
func text(p api.Prog) string {
	s := fmt.Sprintf("warrener %d %d %d\n", p.Roots, p.Cells, p.Slots)
	for _, code := range p.Code {
		s += "thread\n"
		for _, x := range code {
			s += line(x) + "\n"
		}
	}
	return s
}

// words is what stands between the blanks of a line.
func words(s string) []string {
	return slices.DeleteFunc(strings.Split(s, " "), func(word string) bool { return word == "" })
}

// parted is the lines of a text.
func parted(s string) []string {
	if s == "" {
		return nil
	}
	return strings.Split(strings.TrimSuffix(s, "\n"), "\n")
}

var digits = regexp.MustCompile(`\A(0|-?[1-9][0-9]*)\z`)

// number is the one whose decimal the word is, if it is one of 64 bits.
func number(word string) (int64, bool) {
	// A number of 64 bits has at most 19 digits, and a sign.
	if len(word) > 20 || !digits.MatchString(word) {
		return 0, false
	}
	n, _ := new(big.Int).SetString(word, 10)
	if !n.IsInt64() {
		return 0, false
	}
	return n.Int64(), true
}

// instrWants is what the page says of an instruction's line.
func instrWants(s string) (api.Instr, api.Errno) {
	l := words(s)
	if len(l) == 0 || opOf(l[0]) == 0 {
		return api.Instr{}, api.ErrKind
	}
	op := opOf(l[0])
	if len(l) != 1+needs(op) {
		return api.Instr{}, api.ErrForm
	}
	var numbers []int64
	for _, word := range l[1:] {
		n, ok := number(word)
		if !ok {
			return api.Instr{}, api.ErrForm
		}
		numbers = append(numbers, n)
	}
	full := put(op, numbers)
	for _, n := range full[:3] {
		if n < 0 || n > 255 {
			return api.Instr{}, api.ErrRange
		}
	}
	return with(op, full), api.OK
}

// checkWants is what the page of programs says of one whose instructions are some.
func checkWants(p api.Prog) api.Errno {
	if p.Roots > 4 || p.Cells > 6 || p.Slots > 2 {
		return api.ErrRange
	}
	if len(p.Code) == 0 {
		return api.ErrMany
	}
	for _, code := range p.Code {
		most := map[byte]int{'r': 3, 'g': p.Roots - 1, 's': p.Slots - 1, 'f': 1, 't': len(code), '-': 0}
		for _, x := range code {
			for i, n := range operands(x) {
				letter := page[x.Op][1][i]
				if letter != 'n' && (n < 0 || n > int64(most[letter])) {
					return api.ErrRange
				}
			}
		}
	}
	return api.OK
}

// headWants is what the page says of the first line.
func headWants(s string) (api.Prog, bool) {
	l, numbers := words(s), []int{}
	if len(l) != 4 || l[0] != "warrener" {
		return api.Prog{}, false
	}
	for _, word := range l[1:] {
		n, ok := number(word)
		if !ok || n < 0 || n > 255 {
			return api.Prog{}, false
		}
		numbers = append(numbers, int(n))
	}
	return api.Prog{Roots: numbers[0], Cells: numbers[1], Slots: numbers[2]}, true
}

// bodyWants is what the page says of a line behind the first one, and of the program with it.
func bodyWants(p api.Prog, s string) (api.Prog, api.Errno) {
	if slices.Equal(words(s), []string{"thread"}) {
		if len(p.Code) == 4 {
			return p, api.ErrMany
		}
		p.Code = append(p.Code, []api.Instr{})
		return p, api.OK
	}
	if len(p.Code) == 0 {
		return p, api.ErrState
	}
	x, err := instrWants(s)
	if err != api.OK {
		return p, err
	}
	last := &p.Code[len(p.Code)-1]
	if len(*last) == 16 {
		return p, api.ErrMany
	}
	*last = append(*last, x)
	return p, api.OK
}

// wants is what the page says of a text.
func wants(s string) (api.Prog, int, api.Errno) {
	var p api.Prog
	begun, all := false, parted(s)
	for at, line := range all {
		if l := words(line); len(l) == 0 || l[0][0] == '#' {
			continue
		}
		if !begun {
			if p, begun = headWants(line); !begun {
				return api.Prog{}, at, api.ErrForm
			}
			continue
		}
		var err api.Errno
		if p, err = bodyWants(p, line); err != api.OK {
			return api.Prog{}, at, err
		}
	}
	err := api.ErrForm
	if begun {
		err = checkWants(p)
	}
	if err != api.OK {
		p = api.Prog{}
	}
	return p, len(all), err
}

// same tells whether two programs are one; nil and empty lists are.
func same(p api.Prog, q api.Prog) bool {
	return p.Roots == q.Roots && p.Cells == q.Cells && p.Slots == q.Slots && slices.EqualFunc(p.Code, q.Code, slices.Equal)
}

// copied is a program in memory of its own.
func copied(p api.Prog) api.Prog {
	code := slices.Clone(p.Code)
	for i := range code {
		code[i] = slices.Clone(code[i])
	}
	p.Code = code
	return p
}

// wrongInstr is what is wrong with what Instr answers; nothing, if it is as the page says.
func wrongInstr(s string) string {
	x, err := asm.Instr(s)
	if want, wantErr := instrWants(s); x != want || err != wantErr {
		return fmt.Sprintf("Instr(%q) = %+v, %d, want %+v, %d\n", s, x, err, want, wantErr)
	}
	return ""
}

// wrong is what is wrong with what Parse answers; nothing, if it is as the page says.
func wrong(s string) string {
	p, at, err := asm.Parse(s)
	if want, wantAt, wantErr := wants(s); !same(p, want) || at != wantAt || err != wantErr {
		return fmt.Sprintf("Parse(%.2000q) = %+v, %d, %d, want %+v, %d, %d\n", s, p, at, err, want, wantAt, wantErr)
	}
	return ""
}

func holdInstr(t *testing.T, s string) {
	t.Helper()
	if told := wrongInstr(s); told != "" {
		t.Error(told)
	}
}

func hold(t *testing.T, s string) {
	t.Helper()
	if told := wrong(s); told != "" {
		t.Error(told)
	}
}

// isInstr holds that the line is the instruction's.
func isInstr(t *testing.T, s string, want api.Instr) {
	t.Helper()
	if x, err := asm.Instr(s); x != want || err != api.OK {
		t.Errorf("Instr(%q) = %+v, %d, want %+v", s, x, err, want)
	}
	holdInstr(t, s)
}

// noInstr holds that the line is refused, with an instruction that is all 0.
func noInstr(t *testing.T, s string, want api.Errno) {
	t.Helper()
	if x, err := asm.Instr(s); x != (api.Instr{}) || err != want {
		t.Errorf("Instr(%q) = %+v, %d, want %d", s, x, err, want)
	}
	holdInstr(t, s)
}

// isProg holds that the text is the program's, and has so many lines.
func isProg(t *testing.T, s string, want api.Prog, many int) {
	t.Helper()
	if p, at, err := asm.Parse(s); !same(p, want) || at != many || err != api.OK {
		t.Errorf("Parse(%q) = %+v, %d, %d, want %+v, %d", s, p, at, err, want, many)
	}
	hold(t, s)
}

// noProg holds that the text is refused there, with a program that is empty.
func noProg(t *testing.T, s string, wantAt int, want api.Errno) {
	t.Helper()
	if p, at, err := asm.Parse(s); !same(p, api.Prog{}) || at != wantAt || err != want {
		t.Errorf("Parse(%.2000q) = %+v, %d, %d, want %d, %d", s, p, at, err, wantAt, want)
	}
	hold(t, s)
}

// chance is a row of numbers without a short beat.
type chance uint64

func (c *chance) next(below int) int {
	*c = *c*6364136223846793005 + 1442695040888963407
	return int(uint64(*c) >> 33 % uint64(below))
}

// number is one of all 64 bits, of any width.
func (c *chance) number() int64 {
	n := int64(c.next(1<<31))<<33 ^ int64(c.next(1<<31))<<11 ^ int64(c.next(1<<11))
	return n >> c.next(64)
}

// instr is an instruction that may be in the program, in code of so many.
func (c *chance) instr(p api.Prog, code int) api.Instr {
	most := map[byte]int{'r': 4, 'g': p.Roots, 's': p.Slots, 'f': 2, 't': code + 1, '-': 1}
	for {
		op, may := c.next(25)+1, true
		var l [4]int64
		for i := range l {
			if letter := page[op][1][i]; letter == 'n' {
				l[i] = c.number()
			} else if most[letter] > 0 {
				l[i] = int64(c.next(most[letter]))
			} else {
				may = false
			}
		}
		if may {
			return with(op, l)
		}
	}
}

// prog is a program that may be.
func (c *chance) prog() api.Prog {
	p := api.Prog{Roots: c.next(5), Cells: c.next(7), Slots: c.next(3)}
	for range c.next(4) + 1 {
		code := make([]api.Instr, c.next(17))
		for i := range code {
			code[i] = c.instr(p, len(code))
		}
		p.Code = append(p.Code, code)
	}
	return p
}

// word is some word.
func (c *chance) word() string {
	switch c.next(6) {
	case 0:
		return page[c.next(25)+1][0]
	case 1:
		return []string{"thread", "warrener", "#", "#x"}[c.next(4)]
	case 2:
		return noDecimals[c.next(len(noDecimals))]
	case 3:
		return noNames[c.next(len(noNames))]
	case 4:
		return decimal(c.number())
	default:
		return decimal(int64(c.next(5)))
	}
}

// apart is the line with more blanks.
func (c *chance) apart(s string) string {
	var b strings.Builder
	for i, word := range words(s) {
		b.WriteString(strings.Repeat(" ", c.next(3)+min(i, 1)))
		b.WriteString(word)
	}
	return b.String() + strings.Repeat(" ", c.next(3))
}

// leftOut is a line that tells nothing.
func (c *chance) leftOut() string {
	return []string{"", " ", "   ", "#", " # ", "# halt", "#halt", "   #thread", "##", "#\r", "# warrener 1 2 3", "#\xff\x00", "# new  0 # free 0"}[c.next(13)]
}

// loose is the same text with more blanks, and with lines that are left out.
func (c *chance) loose(s string) string {
	var l []string
	for _, line := range parted(s) {
		for c.next(3) == 0 {
			l = append(l, c.leftOut())
		}
		l = append(l, c.apart(line))
	}
	for c.next(3) == 0 {
		l = append(l, c.leftOut())
	}
	// A last line without an octet must have its line feed to be one.
	end := "\n"
	if l[len(l)-1] != "" && c.next(2) == 0 {
		end = ""
	}
	return strings.Join(l, "\n") + end
}

// odd is a text that is a program's but for a few words.
func (c *chance) odd() string {
	l := parted(text(c.prog()))
	for range c.next(3) {
		i := c.next(len(l))
		if c.next(4) == 0 {
			i = 0
		}
		at := words(l[i])
		if len(at) == 0 {
			continue
		}
		j := c.next(len(at))
		switch c.next(5) {
		case 0:
			at[j] = c.word()
		case 1:
			at = slices.Insert(at, j, c.word())
		case 2:
			at = slices.Delete(at, j, j+1)
		case 3:
			at = append(at, c.word())
		default:
			l = slices.Insert(l, c.next(len(l)+1), []string{"thread", "halt", "set 1 -9", "jump 3", "put 3 3", "free 4", "free 256", "set 1", "warrener 0 0 0", "halt 0"}[c.next(10)])
			continue
		}
		l[i] = strings.Join(at, " ")
	}
	return c.loose(strings.Join(l, "\n"))
}

// edges are what an operand may be, by its place among A, B, C and N.
func edges(place int) []int64 {
	if place < 3 {
		return []int64{0, 1, 2, 3, 4, 42, 99, 100, 127, 128, 254, 255}
	}
	return ends
}

// P13.1: each instruction's line, each operand of which goes from end to end, while the others are 0, 255, or such as tell them apart.
func TestEach(t *testing.T) {
	for op := 1; op <= 25; op++ {
		for _, base := range [][4]int64{{}, {255, 255, 255, -1}, {1, 2, 3, 4}, {7, 0, 200, math.MinInt64}, {0, 255, 0, math.MaxInt64}} {
			x := with(op, base)
			for i := range 4 {
				if page[op][1][i] == '-' {
					base[i] = 0
				}
			}
			isInstr(t, line(x), with(op, base))
			for i := range 4 {
				if page[op][1][i] == '-' {
					continue
				}
				for _, n := range edges(i) {
					l := base
					l[i] = n
					isInstr(t, line(with(op, l)), with(op, l))
				}
			}
		}
	}
}

// P13.1: lines written out, one of each kind of operands.
func TestLines(t *testing.T) {
	for _, c := range []struct {
		s    string
		want api.Instr
	}{
		{"halt", api.Instr{Op: 1}},
		{"set 255 -9223372036854775808", api.Instr{Op: 2, A: 255, N: math.MinInt64}},
		{"set 0 9223372036854775807", api.Instr{Op: 2, N: math.MaxInt64}},
		{"copy 1 2", api.Instr{Op: 3, A: 1, B: 2}},
		{"add 1 2 3", api.Instr{Op: 4, A: 1, B: 2, C: 3}},
		{"sub 255 0 255", api.Instr{Op: 5, A: 255, C: 255}},
		{"mul 0 255 0", api.Instr{Op: 6, B: 255}},
		{"div 3 2 1", api.Instr{Op: 7, A: 3, B: 2, C: 1}},
		{"jump -7", api.Instr{Op: 8, N: -7}},
		{"zero 4 300", api.Instr{Op: 9, A: 4, N: 300}},
		{"same 5 6 -1", api.Instr{Op: 10, A: 5, B: 6, N: -1}},
		{"look 1 9", api.Instr{Op: 11, A: 1, B: 9}},
		{"put 9 1", api.Instr{Op: 12, A: 9, B: 1}},
		{"swap 1 2 3 4", api.Instr{Op: 13, A: 1, B: 2, C: 3, N: 4}},
		{"load 0 1 0", api.Instr{Op: 14, B: 1}},
		{"store 2 1 256", api.Instr{Op: 15, A: 2, B: 1, N: 256}},
		{"cas 4 3 2 1", api.Instr{Op: 16, A: 4, B: 3, C: 2, N: 1}},
		{"fence", api.Instr{Op: 17}},
		{"new 3", api.Instr{Op: 18, A: 3}},
		{"free 2", api.Instr{Op: 19, A: 2}},
		{"retire 1", api.Instr{Op: 20, A: 1}},
		{"guard 3 1", api.Instr{Op: 21, A: 3, N: 1}},
		{"clear 1", api.Instr{Op: 22, N: 1}},
		{"enter", api.Instr{Op: 23}},
		{"leave", api.Instr{Op: 24}},
		{"quiet", api.Instr{Op: 25}},
	} {
		isInstr(t, c.s, c.want)
	}
}

// P13.1: one blank and more between the words, ahead of them and behind them.
func TestBlanks(t *testing.T) {
	for op := 1; op <= 25; op++ {
		want := with(op, put(op, []int64{5, 60, 255, -8}[:needs(op)]))
		l := words(line(want))
		for _, between := range []string{" ", "  ", "   ", strings.Repeat(" ", 1000)} {
			for _, ahead := range []string{"", " ", "  ", strings.Repeat(" ", 77)} {
				for _, behind := range []string{"", " ", "  ", strings.Repeat(" ", 77)} {
					isInstr(t, ahead+strings.Join(l, between)+behind, want)
				}
			}
		}
	}
}

// P13.1: lines whose first word is no instruction's name, whatever is behind it.
func TestNoNames(t *testing.T) {
	for _, s := range []string{"", " ", "  ", strings.Repeat(" ", 5000)} {
		noInstr(t, s, api.ErrKind)
	}
	for _, name := range noNames {
		for _, behind := range []string{"", " ", " 0", " 1 2", " 1 2 3", " 1 2 3 4", " 1 2 3 4 5", " x", " -1", " halt", " 256"} {
			noInstr(t, name+behind, api.ErrKind)
			noInstr(t, "  "+name+behind, api.ErrKind)
		}
	}
	for _, s := range []string{"warrener 0 0 0", "thread", "thread 0", "0 halt", "1", "# halt", "\nhalt", "halt\n", "halt\nhalt", "\n", "\x00", "hal t", "h alt", "new\t0", "new\u00a00", "free,0"} {
		noInstr(t, s, api.ErrKind)
	}
}

// P13.1: from no words to a few more than there are operands: just as many are a line.
func TestMany(t *testing.T) {
	for op := 1; op <= 25; op++ {
		for many := range 9 {
			s := page[op][0] + strings.Repeat(" 1", many)
			if many == needs(op) {
				isInstr(t, s, with(op, put(op, []int64{1, 1, 1, 1}[:many])))
			} else {
				noInstr(t, s, api.ErrForm)
			}
			noInstr(t, s+" "+page[op][0], api.ErrForm)
			noInstr(t, s+strings.Repeat(" 0", 500), api.ErrForm)
			noInstr(t, s+" #", api.ErrForm)
		}
	}
}

// P13.1: a word that is no decimal, in place of each operand.
func TestNoDecimals(t *testing.T) {
	for op := 1; op <= 25; op++ {
		for i := range needs(op) {
			for _, word := range noDecimals {
				l := slices.Repeat([]string{"1"}, needs(op))
				l[i] = word
				noInstr(t, page[op][0]+" "+strings.Join(l, " "), api.ErrForm)
			}
		}
	}
}

// P13.1: A, B and C that have no room in an octet; N has.
func TestRange(t *testing.T) {
	outside := []int64{-1, 256, math.MinInt64, math.MaxInt64, -2, 257, -255, -256, 511, 512, 1 << 16, 1<<16 + 1, 1 << 32, 1<<32 + 3, -1 << 32, 1<<40 + 255, math.MinInt64 + 1, 1000}
	for op := 1; op <= 25; op++ {
		for i := range 4 {
			if page[op][1][i] == '-' {
				continue
			}
			for _, n := range outside {
				for _, rest := range [][4]int64{{}, {1, 2, 3, 4}, {255, 255, 255, 255}} {
					rest[i] = n
					x := with(op, rest)
					if i < 3 {
						noInstr(t, line(x), api.ErrRange)
					} else if got, err := asm.Instr(line(x)); err != api.OK || got.N != n {
						t.Errorf("Instr(%q) = %+v, %d", line(x), got, err)
					}
					holdInstr(t, line(x))
				}
			}
		}
	}
}

// P13.1, P4: what is told first, where several things are wrong at once.
func TestInstrOrder(t *testing.T) {
	for _, c := range []struct {
		s    string
		want api.Errno
	}{
		{"frees -1", api.ErrKind},
		{"frees x", api.ErrKind},
		{"frees", api.ErrKind},
		{"Free 256 x", api.ErrKind},
		{"free -1 0", api.ErrForm},
		{"free 256 256", api.ErrForm},
		{"free x 0", api.ErrForm},
		{"free x", api.ErrForm},
		{"copy 256", api.ErrForm},
		{"copy -1 x", api.ErrForm},
		{"copy x -1", api.ErrForm},
		{"copy 256 01", api.ErrForm},
		{"copy 0 256 0", api.ErrForm},
		{"add 256 256 -0", api.ErrForm},
		{"add -1 +1 0", api.ErrForm},
		{"add -1 0", api.ErrForm},
		{"set 256 x", api.ErrForm},
		{"set -1 9223372036854775808", api.ErrForm},
		{"set 256 9223372036854775807", api.ErrRange},
		{"set 9223372036854775808 0", api.ErrForm},
		{"set 9223372036854775807 -", api.ErrForm},
		{"cas 256 1 2", api.ErrForm},
		{"cas 1 -1 256 x", api.ErrForm},
		{"cas 1 -1 256 3", api.ErrRange},
		{"cas -1 -1 -1 -1", api.ErrRange},
		{"swap 0 0 256 -9223372036854775808", api.ErrRange},
		{"halt -1", api.ErrForm},
		{"halt 0", api.ErrForm},
		{"fence x", api.ErrForm},
	} {
		noInstr(t, c.s, c.want)
	}
}

// P13.2: texts written out.
func TestTexts(t *testing.T) {
	for _, c := range []struct {
		s    string
		want api.Prog
		many int
	}{
		{"warrener 0 0 0\nthread", threads(nil), 2},
		{"warrener 0 0 0\nthread\n", threads(nil), 2},
		{"warrener 0 0 0\nthread\n\n", threads(nil), 3},
		{"warrener 0 0 0\nthread\n ", threads(nil), 3},
		{"warrener 0 0 0\nthread\n#", threads(nil), 3},
		{"warrener 0 0 0\nthread\n#\n", threads(nil), 3},
		{"\nwarrener 0 0 0\nthread", threads(nil), 3},
		{"#\n\n  # x\n   \nwarrener 0 0 0\nthread", threads(nil), 6},
		{"  warrener  0   0 0  \n  thread  \n  halt  ", threads(halts(1)), 3},
		{"warrener 4 6 2\nthread", api.Prog{Roots: 4, Cells: 6, Slots: 2, Code: [][]api.Instr{nil}}, 2},
		{"warrener 1 2 0\nthread", api.Prog{Roots: 1, Cells: 2, Code: [][]api.Instr{nil}}, 2},
		{"warrener 2 0 1\nthread", api.Prog{Roots: 2, Slots: 1, Code: [][]api.Instr{nil}}, 2},
		{"warrener 0 0 0\nthread\nthread\nthread\nthread", threads(nil, nil, nil, nil), 5},
		{"warrener 0 0 0\nthread\nthread\nhalt\nthread\n", threads(nil, halts(1), nil), 5},
		{
			"# one frees\nwarrener 1 1 0\n\nthread\nnew 0\nput 0 0\n #new 1\nfree 0\n\nthread\nlook 1 0\n#thread\nload  2 1 0\n# end",
			api.Prog{Roots: 1, Cells: 1, Code: [][]api.Instr{
				{{Op: api.OpNew}, {Op: api.OpPut}, {Op: api.OpFree}},
				{{Op: api.OpLook, A: 1}, {Op: api.OpLoad, A: 2, B: 1}},
			}},
			14,
		},
		{"warrener 0 0 0\nthread\njump 1\nthread\njump 2\nhalt", threads([]api.Instr{jump}, []api.Instr{{Op: api.OpJump, N: 2}, halt}), 6},
	} {
		isProg(t, c.s, c.want, c.many)
	}
}

// P13.2, P13.3: all numbers of roots, cells, slots, threads and instructions that there may be, with and without the last line feed.
func TestMayBe(t *testing.T) {
	for _, p := range some() {
		many := strings.Count(text(p), "\n")
		isProg(t, text(p), p, many)
		isProg(t, strings.TrimSuffix(text(p), "\n"), p, many)
	}
	for i := range 5 * 7 * 3 {
		p := api.Prog{Roots: i % 5, Cells: i / 5 % 7, Slots: i / 35}
		for many := 1; many <= 4; many++ {
			for n := range 17 {
				p.Code = make([][]api.Instr, many)
				p.Code[0], p.Code[many-1] = halts(16-n), halts(n)
				s := text(p)
				isProg(t, s, p, strings.Count(s, "\n"))
				isProg(t, strings.TrimSuffix(s, "\n"), p, strings.Count(s, "\n"))
			}
		}
	}
}

// P13.2: each instruction that may be, in each place of each thread of the greatest program.
func TestPlaces(t *testing.T) {
	c := chance(4)
	p := greatest()
	for op := 1; op <= 25; op++ {
		for i := range 64 {
			x := c.instr(p, 16)
			for x.Op != op {
				x = c.instr(p, 16)
			}
			kept := p.Code[i/16][i%16]
			p.Code[i/16][i%16] = x
			isProg(t, text(p), p, 69)
			p.Code[i/16][i%16] = kept
		}
	}
}

// blind are lines that are left out.
var blind = []string{"", " ", "     ", "#", " #", "    #", "# ", "##", "#x", "#halt", "# halt", "#thread", " # thread", "#warrener 9 9 9", "# warrener", "#0", "#\x00", "#\r", "#\xff\xfe", "#é", "  #\t", "#" + strings.Repeat(" x", 300)}

// P13.2: lines that are left out, ahead of each line of a text and behind the last one: they are counted as lines, and tell nothing.
func TestLeftOut(t *testing.T) {
	for _, p := range some()[:8] {
		l := parted(text(p))
		for i := range len(l) + 1 {
			for _, line := range blind {
				for _, many := range []int{1, 3} {
					more := slices.Insert(slices.Clone(l), i, slices.Repeat([]string{line}, many)...)
					isProg(t, strings.Join(more, "\n")+"\n", p, len(l)+many)
				}
			}
		}
		all := slices.Clone(blind)
		for _, line := range l {
			all = append(append(all, line), blind...)
		}
		isProg(t, strings.Join(all, "\n")+"\n", p, len(all))
		isProg(t, strings.Join(all, "\n"), p, len(all))
	}
	for _, line := range blind {
		noProg(t, line+"\n"+line+"\nwarrener 0 0 0\n"+line+"\nthread\n"+line+"\nhalt 0\n", 6, api.ErrForm)
		noProg(t, line+"\nwarrener\n", 1, api.ErrForm)
		noProg(t, "warrener 0 0 0\n"+line+"\nhalt\nthread\n", 2, api.ErrState)
		noProg(t, "warrener 0 0 0\n"+line+"\n", 2, api.ErrMany)
	}
}

// P13.2: lines that are none of those left out, for # is not what their first word begins with.
func TestNotLeftOut(t *testing.T) {
	for _, line := range []string{"halt #", "halt # x", "halt#", "x#", "\t", "\r", "\t#", "\r#", "\x00", "\u00a0", "\u00a0#", "-#", "//", ";", "\xff", "0", "\v#", "＃"} {
		_, want := instrWants(line)
		noProg(t, "warrener 0 0 0\nthread\n"+line+"\nhalt\n", 2, want)
		noProg(t, "warrener 0 0 0\n"+line+"\nthread\n", 1, api.ErrState)
		noProg(t, line+"\nwarrener 0 0 0\nthread\n", 0, api.ErrForm)
	}
	noProg(t, "warrener 0 0 0 #\nthread", 0, api.ErrForm)
	noProg(t, "warrener 0 0 0\nthread #\n", 1, api.ErrState)
	noProg(t, "warrener 0 0 0\nthread\nthread #\n", 2, api.ErrKind)
	noProg(t, "warrener 0 0 0\nthread\nthread#\n", 2, api.ErrKind)
}

// P13.2: a first line that is wrong, also behind lines that are left out.
func TestHead(t *testing.T) {
	heads := []string{
		"warrener", "warrener 0", "warrener 0 0", "warrener 0 0 0 0", "warrener 0 0 0 0 0", "warrener 1 1 1 x",
		"Warrener 0 0 0", "WARRENER 0 0 0", "warrene 0 0 0", "arrener 0 0 0", "warreners 0 0 0", "warrener0 0 0", "warrener\t0 0 0", "warrener 0\t0 0", "warrener,0 0 0", "warren 0 0 0", "x 0 0 0", "0 0 0", "0 0 0 0", "0 0 0 warrener",
		"thread", "thread 0 0 0", "halt", "halt 0 0 0", "add 0 0 0", "free 0", "nothing", "\r", "warrener 0 0 0\r", "\xef\xbb\xbfwarrener 0 0 0", "x warrener 0 0 0", "warrener 0 0 # 0", "warrener # 0 0",
	}
	for i := range 3 {
		for _, word := range append([]string{"-1", "256", "-255", "257", "300", "1000", "65536", "4294967296", "18446744073709551616", "9223372036854775807", "-9223372036854775808"}, noDecimals...) {
			l := []string{"0", "0", "0"}
			l[i] = word
			heads = append(heads, "warrener "+strings.Join(l, " "))
		}
	}
	for _, head := range heads {
		noProg(t, head, 0, api.ErrForm)
		noProg(t, head+"\nthread\n", 0, api.ErrForm)
		noProg(t, head+"\nwarrener 0 0 0\nthread\n", 0, api.ErrForm)
		noProg(t, "\n#\n \n"+head+"\nthread\n", 3, api.ErrForm)
	}
}

// P13.2: roots, cells and slots from 0 to 255 are a first line, and what is more than there may be is told behind the last line.
func TestNumbers(t *testing.T) {
	for n := range 256 {
		for i, most := range []int{4, 6, 2} {
			var l [3]int
			l[i] = n
			s := fmt.Sprintf("warrener %d %d %d\nthread\nhalt\n", l[0], l[1], l[2])
			if n <= most {
				isProg(t, s, api.Prog{Roots: l[0], Cells: l[1], Slots: l[2], Code: [][]api.Instr{{halt}}}, 3)
			} else {
				noProg(t, s, 3, api.ErrRange)
				noProg(t, s+"\n#\n", 5, api.ErrRange)
			}
		}
	}
	noProg(t, "warrener 255 255 255\nthread\nhalt", 3, api.ErrRange)
	noProg(t, "warrener 255 255 255\n", 1, api.ErrRange)
	noProg(t, "warrener 5 0 0", 1, api.ErrRange)
}

// P13.2: no first line.
func TestNoHead(t *testing.T) {
	noProg(t, "", 0, api.ErrForm)
	for _, line := range blind {
		for _, many := range []int{1, 2, 7, 300} {
			noProg(t, strings.Repeat(line+"\n", many), many, api.ErrForm)
			behind := many
			if line != "" {
				behind++
			}
			noProg(t, strings.Repeat(line+"\n", many)+line, behind, api.ErrForm)
		}
	}
	noProg(t, strings.Join(blind, "\n")+"\n", len(blind), api.ErrForm)
}

// P13.2: any line but thread alone, ahead of any thread.
func TestNoThread(t *testing.T) {
	l := []string{"thread thread", "thread 0", "thread x", "thread #", "threads", "Thread", "THREAD", "threa", "hread", "thread\r", "thread\t", "warrener", "warrener 0 0 0", "0", "x", "halt 0", "free 256", "free", "free x", "\r"}
	for op := 1; op <= 25; op++ {
		l = append(l, line(api.Instr{Op: op}), page[op][0])
	}
	for _, s := range append(l, noNames...) {
		if s == "thread" || s[0] == '#' {
			continue
		}
		noProg(t, "warrener 0 0 0\n"+s, 1, api.ErrState)
		noProg(t, "warrener 4 6 2\n"+s+"\nthread\nhalt\n", 1, api.ErrState)
		noProg(t, "\nwarrener 4 6 2\n\n#\n  "+s+"  \nthread\n", 4, api.ErrState)
	}
	noProg(t, "warrener 0 0 0\nthread x", 1, api.ErrState)
	noProg(t, "warrener 0 0 0\nthread\nthread x", 2, api.ErrKind)
	noProg(t, "warrener 0 0 0\nthread\nhalt\nthread thread", 3, api.ErrKind)
	noProg(t, "warrener 0 0 0\nthread\nthread 0\n", 2, api.ErrKind)
	noProg(t, "warrener 0 0 0\nthread\nwarrener 0 0 0\n", 2, api.ErrKind)
}

// P13.2: each of Instr's errors, at each line of each thread.
func TestWrongLines(t *testing.T) {
	wrongs := map[string]api.Errno{
		"hal": api.ErrKind, "thread 1": api.ErrKind, "warrener 4 6 2": api.ErrKind, "0": api.ErrKind, "Set 1 2": api.ErrKind, "halt\r": api.ErrKind,
		"halt 0": api.ErrForm, "set 0": api.ErrForm, "set 0 01": api.ErrForm, "new +1": api.ErrForm, "cas 1 2 3 4 5": api.ErrForm, "copy x 256": api.ErrForm,
		"free 256": api.ErrRange, "free -1": api.ErrRange, "put 0 9223372036854775807": api.ErrRange, "cas 0 0 256 0": api.ErrRange,
	}
	l := parted(text(greatest()))
	for s, want := range wrongs {
		for at := 2; at < len(l); at++ {
			if l[at] == "thread" {
				continue
			}
			more := slices.Clone(l)
			more[at] = s
			noProg(t, strings.Join(more, "\n"), at, want)
			// A later line that is wrong, too, is not told.
			noProg(t, strings.Join(append(more, "x", "free 256", "new"), "\n"), at, want)
			noProg(t, strings.Join(more[:at+1], "\n"), at, want)
		}
	}
	// With an instruction more there are too many in the thread, which counts behind Instr's error.
	for s, want := range wrongs {
		noProg(t, strings.Join(append(slices.Clone(l), s), "\n"), len(l), want)
	}
}

// P13.2: threads and instructions of which there are too many.
func TestTooMany(t *testing.T) {
	head := "warrener 0 0 0\n"
	for many := 5; many <= 9; many++ {
		noProg(t, head+strings.Repeat("thread\n", many), 5, api.ErrMany)
		noProg(t, head+strings.Repeat("thread\n", 4)+"\n#\n"+strings.Repeat("  thread \n", many-4), 7, api.ErrMany)
	}
	noProg(t, text(greatest())+"thread\n", 69, api.ErrMany)
	noProg(t, text(greatest())+"thread", 69, api.ErrMany)
	noProg(t, text(greatest())+"halt", 69, api.ErrMany)
	for many := 1; many <= 4; many++ {
		for i := range many {
			p := threads(slices.Repeat([][]api.Instr{halts(2)}, many)...)
			p.Code[i] = halts(17)
			noProg(t, text(p), 18+3*i, api.ErrMany)
			p.Code[i] = halts(30)
			noProg(t, text(p), 18+3*i, api.ErrMany)
		}
	}
	full := head + "thread\n" + strings.Repeat("halt\n", 16)
	isProg(t, full+"thread\n", threads(halts(16), nil), 19)
	noProg(t, full+"\n\n#\nhalt\n", 21, api.ErrMany)
	// What may be told of the instruction behind the last line is not yet looked at.
	noProg(t, full+"free 255\n", 18, api.ErrMany)
}

// P13.2: what is told behind the last line, all of which are right by themselves.
func TestBehind(t *testing.T) {
	for _, c := range []struct {
		s    string
		want api.Errno
	}{
		{"warrener 0 0 0", api.ErrMany},
		{"warrener 4 6 2\n\n", api.ErrMany},
		{"warrener 5 0 0\nthread", api.ErrRange},
		{"warrener 0 7 0\nthread", api.ErrRange},
		{"warrener 0 0 3\nthread", api.ErrRange},
		{"warrener 0 0 3", api.ErrRange},
		{"warrener 0 0 0\nthread\nfree 4", api.ErrRange},
		{"warrener 0 0 0\nthread\nfree 255\n", api.ErrRange},
		{"warrener 0 0 0\nthread\nfree 4\nhalt\nthread\nhalt", api.ErrRange},
		{"warrener 0 0 0\nthread\ncopy 0 4", api.ErrRange},
		{"warrener 0 0 0\nthread\nadd 0 0 4", api.ErrRange},
		{"warrener 0 0 0\nthread\nlook 0 0", api.ErrRange},
		{"warrener 1 0 0\nthread\nlook 0 1", api.ErrRange},
		{"warrener 2 0 0\nthread\nput 2 0", api.ErrRange},
		{"warrener 2 0 0\nthread\nswap 0 0 0 2", api.ErrRange},
		{"warrener 2 0 0\nthread\nswap 0 0 0 -1", api.ErrRange},
		{"warrener 0 0 0\nthread\nclear 0", api.ErrRange},
		{"warrener 4 6 1\nthread\nguard 0 1", api.ErrRange},
		{"warrener 0 0 0\nthread\nload 0 0 2", api.ErrRange},
		{"warrener 0 0 0\nthread\nstore 0 0 -1", api.ErrRange},
		{"warrener 0 0 0\nthread\ncas 0 0 0 9223372036854775807", api.ErrRange},
		{"warrener 0 0 0\nthread\njump 2", api.ErrRange},
		{"warrener 0 0 0\nthread\njump -1", api.ErrRange},
		{"warrener 0 0 0\nthread\nzero 0 2", api.ErrRange},
		{"warrener 0 0 0\nthread\nsame 0 0 -9223372036854775808", api.ErrRange},
		{"warrener 0 0 0\nthread\njump 2\nthread\nhalt\nhalt", api.ErrRange},
		{"warrener 0 0 0\nthread\nhalt\nhalt\nthread\njump 2\nthread\nhalt\nhalt", api.ErrRange},
		{"warrener 0 0 0\nthread\nhalt\nhalt\nthread\njump 2", api.ErrRange},
	} {
		noProg(t, c.s, len(parted(c.s)), c.want)
		feed := strings.TrimSuffix(c.s, "\n") + "\n"
		noProg(t, feed+"\n#\n   ", len(parted(feed))+3, c.want)
	}
	isProg(t, "warrener 0 0 0\nthread\njump 2\nhalt", threads([]api.Instr{{Op: api.OpJump, N: 2}, halt}), 4)
	isProg(t, "warrener 0 0 0\nthread\njump 0", threads([]api.Instr{{Op: api.OpJump}}), 3)
}

// P13.2, P4: what is told first, where several lines are wrong.
func TestOrder(t *testing.T) {
	for _, c := range []struct {
		s    string
		at   int
		want api.Errno
	}{
		{"warrener 0 0\nhalt\nx", 0, api.ErrForm},
		{"warrener 256 0 0\nhalt\nx", 0, api.ErrForm},
		{"warrener 9 9 9\nhalt\nx", 1, api.ErrState},
		{"warrener 9 9 9\nx\nthread", 1, api.ErrState},
		{"warrener 9 9 9\nthread\nx", 2, api.ErrKind},
		{"warrener 9 9 9\nthread\nfree", 2, api.ErrForm},
		{"warrener 9 9 9\nthread\nfree 9\nfree 256\nx", 3, api.ErrRange},
		{"warrener 9 9 9\nthread\nfree 9\nx\nfree 256\n", 3, api.ErrKind},
		{"warrener 9 9 9\nthread\nfree 9", 3, api.ErrRange},
		{"warrener 0 0 0\nthread\nfree 9\nthread\nthread\nthread\nthread\nx", 6, api.ErrMany},
		{"warrener 0 0 0\nthread\nfree 9\nthread\nthread\nthread\nx\nthread\n", 6, api.ErrKind},
		{"warrener 9 0 0\nthread\n" + strings.Repeat("free 9\n", 17) + "x", 18, api.ErrMany},
		{"warrener 9 0 0\nthread\n" + strings.Repeat("free 9\n", 16) + "x", 18, api.ErrKind},
		{"warrener 9 0 0\nthread\n" + strings.Repeat("free 9\n", 16) + "free 256", 18, api.ErrRange},
		{"warrener 9 0 0\nthread\n" + strings.Repeat("free 9\n", 16) + "free", 18, api.ErrForm},
		{"warrener 9 0 0\nthread\n" + strings.Repeat("free 9\n", 16) + "thread x", 18, api.ErrKind},
		{"x\n\nwarrener 0 0 0\nthread", 0, api.ErrForm},
		{"\nx\nwarrener 0 0 0\nthread", 1, api.ErrForm},
	} {
		noProg(t, c.s, c.at, c.want)
	}
}

// P13.3: what is shown is parsed as it was, and so is the same with more blanks and lines that are left out.
func TestShown(t *testing.T) {
	c := chance(11)
	l := some()
	for range 4000 {
		l = append(l, c.prog())
	}
	for _, p := range l {
		s, err := show.Prog(p)
		if err != api.OK {
			t.Fatalf("%+v has no text: %d", p, err)
		}
		isProg(t, s, p, show.Count(p))
		more := c.loose(s)
		isProg(t, more, p, len(parted(more)))
		for _, code := range p.Code {
			for _, x := range code {
				shown, _ := show.Instr(x)
				isInstr(t, shown, x)
				isInstr(t, c.apart(shown), x)
			}
		}
	}
}

// P13.3: and the other way round: what is parsed, shown, is the text, but for blanks and lines that are left out.
func TestBack(t *testing.T) {
	c := chance(12)
	for range 3000 {
		want := text(c.prog())
		p, _, err := asm.Parse(c.loose(want))
		if s, shown := show.Prog(p); err != api.OK || shown != api.OK || s != want {
			t.Fatalf("%q is shown as %q, %d, %d", want, s, err, shown)
		}
	}
}

// P13.1, P13.2: lines and texts by chance, of each error and of none.
func TestByChance(t *testing.T) {
	c, seen := chance(6), map[[2]int]int{}
	for range 20000 {
		s := c.odd()
		_, at, err := wants(s)
		where := 0
		if at == len(parted(s)) {
			where = 1
		}
		seen[[2]int{int(err), where}]++
		if told := wrong(s); told != "" {
			t.Fatal(told)
		}
		for _, line := range parted(s) {
			if told := wrongInstr(line); told != "" {
				t.Fatal(told)
			}
		}
	}
	for _, k := range [][2]int{{0, 1}, {1, 0}, {2, 0}, {3, 0}, {3, 1}, {4, 0}, {5, 0}} {
		if seen[k] < 100 {
			t.Errorf("just %d texts of %v", seen[k], k)
		}
	}
	for range 50000 {
		var l []string
		for range c.next(6) {
			l = append(l, c.word())
		}
		if told := wrongInstr(strings.Join(l, " ")); told != "" {
			t.Fatal(told)
		}
	}
}

// P1: texts of any octets.
func TestAnything(t *testing.T) {
	c := chance(13)
	for _, octets := range []string{"\x00", "\n", " \n", "\r\n", "\n\r", "#\n", "\xff\xfe\n ", "0-+ \n", "halt \n", "\xc3\x28 #\n", "warrener \n0", "thread\n 123"} {
		for _, many := range []int{0, 1, 2, 3, 10, 1000, 100000} {
			hold(t, strings.Repeat(octets, many))
			holdInstr(t, strings.Repeat(octets, many))
			hold(t, "warrener 1 1 1\nthread\n"+strings.Repeat(octets, many))
			hold(t, "warrener 1 1 1\n"+strings.Repeat(octets, many))
		}
		for range 300 {
			b := make([]byte, c.next(60))
			for i := range b {
				b[i] = octets[c.next(len(octets))]
			}
			for _, s := range []string{string(b), "warrener 0 0 0\nthread\n" + string(b), "warrener" + string(b), "warrener 0 0 0\n" + string(b) + "thread\n"} {
				hold(t, s)
				holdInstr(t, s)
			}
		}
	}
	for octet := range 256 {
		one := string([]byte{byte(octet)})
		for _, s := range []string{one, one + one, "halt" + one, one + "halt", "halt " + one, "free 1" + one, "free " + one + "1", "free 1 " + one, "free" + one + "1", "fr" + one + "ee 1"} {
			holdInstr(t, s)
			hold(t, s)
			hold(t, "warrener 0 0 0\nthread\n"+s)
			hold(t, "warrener 0 0 0"+one+s)
			hold(t, "warrener 0 0 0\nthread"+one+"\n"+s)
			hold(t, "warrener 0"+one+"0 0\nthread\n"+s)
		}
	}
}

// P1: great texts end: many lines, one long line, many words, long words.
func TestGreat(t *testing.T) {
	const many = 1 << 18
	noProg(t, strings.Repeat("\n", many), many, api.ErrForm)
	isProg(t, strings.Repeat("\n", many)+"warrener 0 0 0\nthread", threads(nil), many+2)
	isProg(t, "warrener 0 0 0\nthread\n"+strings.Repeat("#x\n", many), threads(nil), many+2)
	isProg(t, "warrener 0 0 0"+strings.Repeat(" ", many)+"\nthread\n#"+strings.Repeat(" x", many), threads(nil), 3)
	noProg(t, "warrener"+strings.Repeat(" 0", many)+"\nthread", 0, api.ErrForm)
	noProg(t, "warrener 0 0 0\nthread\nhalt"+strings.Repeat(" 0", many), 2, api.ErrForm)
	noProg(t, "warrener 0 0 0\nthread\nfree "+strings.Repeat("1", many), 2, api.ErrForm)
	noInstr(t, strings.Repeat("halt", many), api.ErrKind)
	noInstr(t, "free -"+strings.Repeat("9", many), api.ErrForm)
	noInstr(t, "free "+strings.Repeat("0", many), api.ErrForm)
	isInstr(t, strings.Repeat(" ", many)+"free"+strings.Repeat(" ", many)+"7"+strings.Repeat(" ", many), api.Instr{Op: api.OpFree, A: 7})
}

// fill makes another program of one, in all the room that its lists have, beyond their ends, too.
func fill(p api.Prog) {
	junk := api.Instr{Op: -7, A: -7, B: -7, C: -7, N: -7}
	for i := range p.Code {
		code := p.Code[i][:cap(p.Code[i])]
		for j := range code {
			code[j] = junk
		}
	}
	for i := range p.Code[:cap(p.Code)] {
		p.Code[:cap(p.Code)][i] = []api.Instr{junk, junk}
	}
}

// P2: two answers of one text share nothing, nor do two threads of one answer.
func TestApart(t *testing.T) {
	c := chance(14)
	l := some()
	for range 300 {
		l = append(l, c.prog())
	}
	for _, want := range l {
		s := c.loose(text(want))
		first, _, _ := asm.Parse(s)
		second, _, _ := asm.Parse(s)
		fill(first)
		if !same(second, want) {
			t.Fatalf("the second answer was changed with the first one: %+v", second)
		}
		isProg(t, s, want, len(parted(s)))
		third, _, _ := asm.Parse(s)
		for i := range third.Code {
			kept := copied(third)
			one := third.Code[i]
			for j := range one[:cap(one)] {
				one[:cap(one)][j] = api.Instr{Op: -9, N: 9}
			}
			for j := range third.Code {
				if j != i && !slices.Equal(third.Code[j], kept.Code[j]) {
					t.Fatalf("thread %d was changed with thread %d: %+v", j, i, third)
				}
			}
		}
		if !same(second, want) {
			t.Fatalf("the second answer was changed with the third one: %+v", second)
		}
	}
}

// P2: what is answered does not stand in the text's memory: when that is another one, the program is as it was.
func TestHandedIn(t *testing.T) {
	c := chance(15)
	for range 500 {
		want := c.prog()
		b := []byte(c.loose(text(want)))
		kept := slices.Clone(b)
		p, many, err := asm.Parse(unsafe.String(&b[0], len(b)))
		if !slices.Equal(b, kept) {
			t.Fatalf("the text is %q, and was %q", b, kept)
		}
		for i := range b {
			b[i] = 'x'
		}
		if !same(p, want) || many != len(parted(string(kept))) || err != api.OK {
			t.Fatalf("%q was parsed to %+v, %d, %d", kept, p, many, err)
		}
		noProg(t, string(b), 0, api.ErrForm)
	}
}

// P3: what a call answers hangs on its text alone, whatever came ahead of it.
func TestNothingElse(t *testing.T) {
	c := chance(9)
	for range 3000 {
		s := c.odd()
		for range 2 {
			told := wrong(s)
			for _, line := range parted(s) {
				told += wrongInstr(line)
			}
			if told != "" {
				t.Fatal(told)
			}
		}
	}
}

// P3: calls of many goroutines answer as those of one, of one text, too.
func TestTogether(t *testing.T) {
	var wait sync.WaitGroup
	one, told := text(greatest()), make([]string, 8)
	for i := range told {
		wait.Go(func() {
			c := chance(100 + i)
			for range 300 {
				told[i] += wrong(one) + wrong(c.odd()) + wrongInstr("cas 1 2 3 "+c.word())
			}
		})
	}
	wait.Wait()
	for _, s := range told {
		if s != "" {
			t.Error(s)
		}
	}
}

// FuzzInstr: whatever a line is, Instr answers as the page says.
func FuzzInstr(f *testing.F) {
	for op := 1; op <= 25; op++ {
		f.Add(line(api.Instr{Op: op, A: 1, B: 2, C: 3, N: -4}))
	}
	f.Fuzz(func(t *testing.T, s string) {
		holdInstr(t, s)
	})
}

// FuzzParse: whatever a text is, Parse answers as the page says; what it takes, shown and parsed again, is as it was.
func FuzzParse(f *testing.F) {
	for _, p := range some() {
		f.Add(text(p))
		f.Add("#\n\n  " + strings.ReplaceAll(text(p), "\n", "  \n # \n"))
	}
	f.Fuzz(func(t *testing.T, s string) {
		hold(t, s)
		p, _, err := asm.Parse(s)
		if err != api.OK {
			return
		}
		shown, _ := show.Prog(p)
		isProg(t, shown, p, show.Count(p))
	})
}
