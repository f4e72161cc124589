package op_test

import (
	"math"
	"strconv"
	"strings"
	"sync"
	"testing"
	"unsafe"

	"warrener/api"
	"warrener/op"
)

// page is what the chapter says of each instruction, by its number.
var page = []struct {
	op          int
	name, shape string
	shares      bool
}{
	{1, "halt", "----", false}, {2, "set", "r--n", false}, {3, "copy", "rr--", false},
	{4, "add", "rrr-", false}, {5, "sub", "rrr-", false}, {6, "mul", "rrr-", false}, {7, "div", "rrr-", false},
	{8, "jump", "---t", false}, {9, "zero", "r--t", false}, {10, "same", "rr-t", false},
	{11, "look", "rg--", true}, {12, "put", "gr--", true}, {13, "swap", "rrrg", true},
	{14, "load", "rr-f", true}, {15, "store", "rr-f", true}, {16, "cas", "rrrf", true},
	{17, "fence", "----", false},
	{18, "new", "r---", true}, {19, "free", "r---", true}, {20, "retire", "r---", true},
	{21, "guard", "r--s", true}, {22, "clear", "---s", true},
	{23, "enter", "----", true}, {24, "leave", "----", true}, {25, "quiet", "----", true},
}

// wants is what the page says of a number: nothing, nothing and false, if it is no instruction.
func wants(n int) (string, string, bool) {
	for _, p := range page {
		if p.op == n {
			return p.name, p.shape, p.shares
		}
	}
	return "", "", false
}

// wantsOp is what the page says of a text: 0, if it is no name.
func wantsOp(s string) int {
	for _, p := range page {
		if p.name == s {
			return p.op
		}
	}
	return 0
}

// noOps are numbers that are no instructions: those beside both ends, those about the bounds of all widths, and those that are an instruction in their lowest bits, or but for their sign.
func noOps() []int {
	l := []int{0, 26, 27, 28, 31, 32, 33, 49, 50, 51, 99, 100, 127, 128, 255, 1000, -1, -2, -26, -128, -1000}
	l = append(l, math.MinInt, math.MinInt+1, math.MinInt+2, math.MaxInt-1, math.MaxInt, math.MinInt32, math.MaxInt32, math.MaxUint32)
	for n := 0; n <= 26; n++ {
		for _, by := range []int{1 << 8, 1 << 16, 1 << 31, 1 << 32, 1 << 62} {
			l = append(l, n+by, n-by)
		}
		l = append(l, n+1<<5, n+1<<6, n+1<<7, n+math.MinInt, math.MaxInt-n, -n, ^n)
	}
	return l
}

// foreign are texts that are no names, though each has something of one.
var foreign = []string{
	"", " ", "\n", "\x00", "-", "----", "r", "g", "s", "f", "t", "n",
	"nop", "move", "cmp", "call", "ret", "exit", "stop", "loop", "goto", "alloc", "malloc", "delete", "release", "protect", "hazard", "epoch", "scan", "flush", "lock", "unlock", "xchg", "mod", "neg", "not", "and", "or", "eq", "lt",
	"halted", "setup", "copying", "adds", "address", "subtract", "multiply", "divide", "jumps", "zeros", "samey", "looks", "output", "swapped", "loads", "restore", "stored", "cast", "fences", "newer", "renew", "freed", "retired", "guards", "clears", "entered", "leaves", "quietly",
	"warrener", "thread", "op", "Op", "OpHalt", "OpCas", "op.Cas", "api.OpCas", "nil", "none", "zero0", "0", "1", "16", "25", "26", "-1", "+1", "0x10", "ca\u0441", "c\u0430s", "\u017fet", "loo\u212a", "cas\u0301", "cas\u00a0", "\ufeffcas", "ｃａｓ",
}

// aboutName are texts that differ from a name by little.
func aboutName(name string) []string {
	l := []string{strings.ToUpper(name), strings.ToUpper(name[:1]) + name[1:], name[:len(name)-1] + strings.ToUpper(name[len(name)-1:]), name + name, backwards(name), "\"" + name + "\"", name + " 0", name + " 0 1 0", name + "\r\n"}
	for i := range len(name) + 1 {
		l = append(l, name[:i], name[i:])
		for octet := range 256 {
			one := string([]byte{byte(octet)})
			l = append(l, name[:i]+one+name[i:])
			if i < len(name) {
				l = append(l, name[:i]+one+name[i+1:])
			}
		}
		if i < len(name) {
			l = append(l, name[:i]+name[i+1:])
		}
	}
	return l
}

// backwards is a text, its last octet first.
func backwards(s string) string {
	b := make([]byte, len(s))
	for i := range b {
		b[i] = s[len(s)-1-i]
	}
	return string(b)
}

// octets is an alphabet of all octets.
func octets() string {
	b := make([]byte, 256)
	for i := range b {
		b[i] = byte(i)
	}
	return string(b)
}

// each calls for all texts of up to so many octets of the alphabet.
func each(alphabet string, most int, call func(s string)) {
	var more func(s string)
	more = func(s string) {
		call(s)
		if len(s) == most {
			return
		}
		for i := range len(alphabet) {
			more(s + alphabet[i:i+1])
		}
	}
	more("")
}

// chance is a row of numbers without a short beat.
type chance uint64

func (c *chance) next(below int) int {
	*c = *c*6364136223846793005 + 1442695040888963407
	return int(uint64(*c) >> 33 % uint64(below))
}

// number is one of all 64 bits, of any width.
func (c *chance) number() int {
	n := c.next(1<<31)<<33 ^ c.next(1<<31)<<11 ^ c.next(1<<11)
	return n >> c.next(64)
}

// text is one of up to so many octets, each of them one of the alphabet's.
func (c *chance) text(most int, alphabet string) string {
	b := make([]byte, c.next(most+1))
	for i := range b {
		b[i] = alphabet[c.next(len(alphabet))]
	}
	return string(b)
}

// short is a text as a failed test tells it.
func short(s string) string {
	if len(s) > 60 {
		return strconv.Quote(s[:60]) + ".. of " + strconv.Itoa(len(s))
	}
	return strconv.Quote(s)
}

// wrong tells how the calls of a number differ from the page; nothing, if they do not.
func wrong(n int) string {
	name, shape, shares := wants(n)
	if got := op.Name(n); got != name {
		return "Name(" + strconv.Itoa(n) + ") = " + short(got) + ", want " + short(name)
	}
	if got := op.Shape(n); got != shape {
		return "Shape(" + strconv.Itoa(n) + ") = " + short(got) + ", want " + short(shape)
	}
	if got := op.Shares(n); got != shares {
		return "Shares(" + strconv.Itoa(n) + ") = " + strconv.FormatBool(got)
	}
	return ""
}

// wrongOp tells how Op of a text differs from the page; nothing, if it does not.
func wrongOp(s string) string {
	if got, want := op.Op(s), wantsOp(s); got != want {
		return "Op(" + short(s) + ") = " + strconv.Itoa(got) + ", want " + strconv.Itoa(want)
	}
	return ""
}

func hold(t *testing.T, n int) {
	if told := wrong(n); told != "" {
		t.Helper()
		t.Fatal(told)
	}
}

func holdOp(t *testing.T, s string) {
	if told := wrongOp(s); told != "" {
		t.Helper()
		t.Fatal(told)
	}
}

// holdNone looks at a number that is no instruction.
func holdNone(t *testing.T, n int) {
	t.Helper()
	if name, shape, shares := op.Name(n), op.Shape(n), op.Shares(n); name != "" || shape != "" || shares {
		t.Errorf("of %d: Name %s, Shape %s, Shares %v", n, short(name), short(shape), shares)
	}
}

// P9.1: the chapter's example.
func TestExample(t *testing.T) {
	if got := op.Op("cas"); got != 16 {
		t.Errorf("Op(cas) = %d", got)
	}
}

// P9.1: the name of each instruction, and the instruction of each name.
func TestName(t *testing.T) {
	for i, p := range page {
		if i+1 != p.op {
			t.Fatalf("the page has %d at %d", p.op, i)
		}
		if got := op.Name(p.op); got != p.name {
			t.Errorf("Name(%d) = %s, want %s", p.op, short(got), p.name)
		}
		if got := op.Op(p.name); got != p.op {
			t.Errorf("Op(%s) = %d, want %d", p.name, got, p.op)
		}
	}
}

// P9.1, P9.2: the numbers are those of package api.
func TestNumbers(t *testing.T) {
	named := map[string]int{
		"halt": api.OpHalt, "set": api.OpSet, "copy": api.OpCopy, "add": api.OpAdd, "sub": api.OpSub, "mul": api.OpMul, "div": api.OpDiv,
		"jump": api.OpJump, "zero": api.OpZero, "same": api.OpSame, "look": api.OpLook, "put": api.OpPut, "swap": api.OpSwap,
		"load": api.OpLoad, "store": api.OpStore, "cas": api.OpCas, "fence": api.OpFence, "new": api.OpNew, "free": api.OpFree, "retire": api.OpRetire,
		"guard": api.OpGuard, "clear": api.OpClear, "enter": api.OpEnter, "leave": api.OpLeave, "quiet": api.OpQuiet,
	}
	if len(named) != 25 {
		t.Fatalf("%d instructions", len(named))
	}
	for name, n := range named {
		if got := op.Name(n); got != name {
			t.Errorf("Name(%d) = %s, want %s", n, short(got), name)
		}
		if got := op.Op(name); got != n {
			t.Errorf("Op(%s) = %d, want %d", name, got, n)
		}
	}
}

// P9.1: Op of what is no name.
func TestNoName(t *testing.T) {
	for _, s := range foreign {
		if got := op.Op(s); got != 0 {
			t.Errorf("Op(%s) = %d", short(s), got)
		}
	}
	for n := -300; n <= 300; n++ {
		if got := op.Op(strconv.Itoa(n)); got != 0 {
			t.Errorf("Op(%d) = %d", n, got)
		}
	}
	for _, p := range page {
		if got := op.Op(p.shape); got != 0 {
			t.Errorf("Op(%s) = %d", p.shape, got)
		}
	}
}

// P9.1: Op of a name without its first or its last letter, with an octet more ahead or behind, and in capitals.
func TestNearName(t *testing.T) {
	for _, p := range page {
		name := p.name
		near := []string{name[1:], name[:len(name)-1], strings.ToUpper(name), strings.ToUpper(name[:1]) + name[1:], name + name}
		for _, one := range []string{"a", "s", "e", "x", "z", "A", "0", " ", "\n", "\x00", "\t", "\r", "\xff", "-", "#", ":"} {
			near = append(near, one+name, name+one, one+name+one)
		}
		for _, s := range near {
			if got := op.Op(s); got != 0 {
				t.Errorf("Op(%s) = %d", short(s), got)
			}
		}
	}
}

// P9.1: Op of all texts that differ from a name by an octet more, by one less, or by another one.
func TestAboutName(t *testing.T) {
	for _, p := range page {
		for _, s := range aboutName(p.name) {
			holdOp(t, s)
		}
	}
}

// P9.1: Op of two names together, whatever stands between them.
func TestTwoNames(t *testing.T) {
	for _, a := range page {
		for _, b := range page {
			for _, by := range []string{"", " ", "\n", "\x00", ",", "-"} {
				s := a.name + by + b.name
				if got := op.Op(s); got != 0 {
					t.Errorf("Op(%s) = %d", short(s), got)
				}
			}
		}
	}
}

// P9.1: Op of all texts of a few octets.
func TestFewOctets(t *testing.T) {
	each(octets(), 2, func(s string) { holdOp(t, s) })
	each("abcdefghijklmnopqrstuvwxyz", 4, func(s string) { holdOp(t, s) })
	each("-rgsftn", 5, func(s string) { holdOp(t, s) })
	each("quiet", 6, func(s string) { holdOp(t, s) })
}

// P9.1: Op of texts by chance.
func TestTextsByChance(t *testing.T) {
	c := chance(9)
	for _, alphabet := range []string{octets(), "abcdefghijklmnopqrstuvwxyz", "aceflnorstu", "hatseconrdufl", "gaurdclenti", " \n\x00casne", "ret i"} {
		for range 20000 {
			holdOp(t, c.text(8, alphabet))
		}
		for range 100 {
			holdOp(t, c.text(5000, alphabet))
		}
	}
}

// P9.1: Op of a great many octets.
func TestLongTexts(t *testing.T) {
	for _, p := range page {
		for _, s := range []string{strings.Repeat(p.name, 1<<16), p.name + strings.Repeat(" ", 1<<18), strings.Repeat(" ", 1<<18) + p.name, p.name + strings.Repeat("\x00", 1<<18), p.name + strings.Repeat("s", 255), p.name + strings.Repeat("s", 256), p.name + strings.Repeat("\x00", 1<<16)} {
			if got := op.Op(s); got != 0 {
				t.Errorf("Op(%s) = %d", short(s), got)
			}
		}
	}
}

// P9.2: the shape of each instruction, and whether it touches what threads share.
func TestShape(t *testing.T) {
	for _, p := range page {
		if got := op.Shape(p.op); got != p.shape {
			t.Errorf("Shape(%d) = %s, want %s", p.op, short(got), p.shape)
		}
		if got := op.Shares(p.op); got != p.shares {
			t.Errorf("Shares(%d) = %v", p.op, got)
		}
	}
}

// P9.2: it is look to cas, and new to quiet, that touch what threads share, and nothing beside them.
func TestShares(t *testing.T) {
	for n := -1000; n <= 1000; n++ {
		want := n >= 11 && n <= 16 || n >= 18 && n <= 25
		if got := op.Shares(n); got != want {
			t.Errorf("Shares(%d) = %v", n, got)
		}
	}
	for _, n := range []int{api.OpLook, api.OpPut, api.OpSwap, api.OpLoad, api.OpStore, api.OpCas, api.OpNew, api.OpFree, api.OpRetire, api.OpGuard, api.OpClear, api.OpEnter, api.OpLeave, api.OpQuiet} {
		if !op.Shares(n) {
			t.Errorf("Shares(%d) = false", n)
		}
	}
	for _, n := range []int{api.OpHalt, api.OpSet, api.OpCopy, api.OpAdd, api.OpSub, api.OpMul, api.OpDiv, api.OpJump, api.OpZero, api.OpSame, api.OpFence, api.OpHalt - 1, api.OpQuiet + 1} {
		if op.Shares(n) {
			t.Errorf("Shares(%d) = true", n)
		}
	}
}

// P9.1, P9.2: of other numbers there is nothing.
func TestNoOps(t *testing.T) {
	for _, n := range noOps() {
		if n < 1 || n > 25 {
			holdNone(t, n)
		}
	}
	for _, p := range page {
		for _, by := range []int{1 << 8, 1 << 16, 1 << 32} {
			for times := 1; times <= 3; times++ {
				holdNone(t, p.op+times*by)
				holdNone(t, p.op-times*by)
			}
		}
		holdNone(t, -p.op)
	}
}

// P9.1, P9.2: of all numbers about 0, and of numbers by chance.
func TestManyNumbers(t *testing.T) {
	for n := -70000; n <= 70000; n++ {
		hold(t, n)
	}
	c := chance(10)
	for range 100000 {
		hold(t, c.number())
	}
}

// P9.3: Op of Name is the instruction, and Name of Op the name.
func TestThereAndBack(t *testing.T) {
	for n := 1; n <= 25; n++ {
		if got := op.Op(op.Name(n)); got != n {
			t.Errorf("Op(Name(%d)) = %d", n, got)
		}
	}
	for _, p := range page {
		if got := op.Name(op.Op(p.name)); got != p.name {
			t.Errorf("Name(Op(%s)) = %s", p.name, short(got))
		}
	}
	for _, n := range noOps() {
		if got := op.Op(op.Name(n)); (n < 1 || n > 25) && got != 0 {
			t.Errorf("Op(Name(%d)) = %d", n, got)
		}
	}
	for _, s := range foreign {
		if got := op.Name(op.Op(s)); got != "" {
			t.Errorf("Name(Op(%s)) = %s", short(s), short(got))
		}
	}
}

// P9.3: each instruction has a name, and no two of them have one.
func TestNamesApart(t *testing.T) {
	whose := map[string]int{}
	for n := -300; n <= 300; n++ {
		name := op.Name(n)
		if name == "" {
			if n >= 1 && n <= 25 {
				t.Errorf("%d has no name", n)
			}
			continue
		}
		if other, there := whose[name]; there {
			t.Errorf("%d and %d are both %s", other, n, short(name))
		}
		whose[name] = n
	}
	if len(whose) != 25 {
		t.Errorf("%d names", len(whose))
	}
}

// P9.2: a shape has four letters, and each of them is one that the chapter names; A, B and C are no numbers, slots, fields or places in the code.
func TestLetters(t *testing.T) {
	for n := 1; n <= 25; n++ {
		shape := op.Shape(n)
		if len(shape) != 4 {
			t.Errorf("Shape(%d) = %s", n, short(shape))
			continue
		}
		for i := range 4 {
			known := "rg-"
			if i == 3 {
				known = "rgsftn-"
			}
			if !strings.Contains(known, shape[i:i+1]) {
				t.Errorf("Shape(%d) = %s has %q at %d", n, short(shape), shape[i], i)
			}
		}
	}
}

// P3: what a call answers hangs on its arguments alone, whatever came ahead of it.
func TestNothingElse(t *testing.T) {
	c := chance(11)
	none := noOps()
	for range 50000 {
		switch c.next(5) {
		case 0:
			hold(t, c.next(27))
		case 1:
			hold(t, none[c.next(len(none))])
		case 2:
			holdOp(t, page[c.next(len(page))].name)
		case 3:
			holdOp(t, foreign[c.next(len(foreign))])
		default:
			near := page[c.next(len(page))].name
			holdOp(t, near[:c.next(len(near))])
		}
	}
}

// P3: calls of many goroutines answer as those of one.
func TestTogether(t *testing.T) {
	var wait sync.WaitGroup
	told := make([]string, 8)
	for i := range told {
		wait.Go(func() {
			c := chance(100 + i)
			for range 5000 {
				if said := wrong(c.next(27)) + wrongOp(page[c.next(len(page))].name); said != "" {
					told[i] = said
				}
			}
		})
	}
	wait.Wait()
	for _, said := range told {
		if said != "" {
			t.Error(said)
		}
	}
}

// P2: no two texts that are answered share memory, be they of one instruction or of two.
func TestTextsApart(t *testing.T) {
	var all []string
	for range 2 {
		for n := 1; n <= 25; n++ {
			all = append(all, op.Name(n), op.Shape(n))
		}
	}
	for i, a := range all {
		for j, b := range all[:i] {
			if unsafe.StringData(a) == unsafe.StringData(b) {
				t.Errorf("texts %d (%s) and %d (%s) share memory", i, short(a), j, short(b))
			}
		}
	}
}

// P2: a text that is handed in is not changed and not kept.
func TestKeepsNothing(t *testing.T) {
	given := []byte("guard")
	s := unsafe.String(&given[0], len(given))
	if got := op.Op(s); got != 21 || string(given) != "guard" {
		t.Fatalf("Op(guard) = %d, and the octets are %q", got, given)
	}
	name, shape := op.Name(op.Op(s)), op.Shape(op.Op(s))
	copy(given, "quiet")
	if name != "guard" || shape != "r--s" {
		t.Errorf("name %s, shape %s", short(name), short(shape))
	}
	if got := op.Op(s); got != 25 {
		t.Errorf("Op(quiet) = %d", got)
	}
	hold(t, 21)
	holdOp(t, "guard")
}

// P1: none of the calls panics, and each ends, whatever it is given.
func TestAnything(t *testing.T) {
	for _, n := range noOps() {
		hold(t, n)
	}
	for i := range 64 {
		for by := -26; by <= 26; by++ {
			hold(t, 1<<i+by)
			hold(t, -1<<i+by)
		}
	}
	for _, s := range append(foreign, octets(), strings.Repeat(octets(), 300), strings.Repeat("\x00", 1<<20), strings.Repeat("cas", 1<<20)) {
		holdOp(t, s)
	}
}
