package conf_test

import (
	"bytes"
	"fmt"
	"math"
	"math/big"
	"regexp"
	"runtime"
	"slices"
	"strings"
	"sync"
	"testing"
	"unsafe"

	"warrener/api"
	"warrener/conf"
)

// page is what the document says of each number, in the order of octets and of words: its least and its greatest, how many octets it has, and its names, if it has some.
var page = [7]struct {
	least, most, wide int
	names             []string
}{
	{0, 3, 1, []string{"manual", "hazard", "epoch", "quiet"}},
	{0, 1, 1, []string{"sc", "tso"}},
	{1, 8, 1, nil},
	{0, 16, 1, nil},
	{1, 4, 1, nil},
	{1, 3, 1, []string{"full", "dpor", "cache"}},
	{0, 1 << 20, 3, nil},
}

// budget is the Budget's place among the numbers.
const budget = 6

// ask is a config and an ask, as seven numbers, and whether to stop.
type ask struct {
	l    [7]int
	stop bool
}

// pair is both, as the calls have them.
func (x ask) pair() (api.Config, api.Ask) {
	c := api.Config{Scheme: x.l[0], Order: x.l[1], Threshold: x.l[2], Fuel: x.l[3], Depth: x.l[4]}
	return c, api.Ask{Mode: x.l[5], Budget: x.l[6], Stop: x.stop}
}

// of is both, as numbers.
func of(c api.Config, a api.Ask) ask {
	return ask{[7]int{c.Scheme, c.Order, c.Threshold, c.Fuel, c.Depth, a.Mode, a.Budget}, a.Stop}
}

// with is the same, but for one number.
func (x ask) with(place int, n int) ask {
	x.l[place] = n
	return x
}

// may tells whether the number may be at that place.
func may(place int, n int) bool {
	return page[place].least <= n && n <= page[place].most
}

// wants is what the page says of the numbers from one place to ahead of another one.
func (x ask) wants(from int, to int) api.Errno {
	for i := from; i < to; i++ {
		if !may(i, x.l[i]) {
			return api.ErrRange
		}
	}
	return api.OK
}

// octets are those of both, whether they may be or not, if each number has room.
func (x ask) octets() []byte {
	var b []byte
	for i, n := range x.l {
		for k := page[i].wide - 1; k >= 0; k-- {
			b = append(b, byte(n>>(8*k)))
		}
	}
	if x.stop {
		return append(b, 1)
	}
	return append(b, 0)
}

// words are those of both: names, if the numbers have some, else decimals.
func (x ask) words() []string {
	var l []string
	for i, n := range x.l {
		if page[i].names != nil && may(i, n) {
			l = append(l, page[i].names[n-page[i].least])
		} else {
			l = append(l, fmt.Sprint(n))
		}
	}
	if x.stop {
		return append(l, "stop")
	}
	return append(l, "all")
}

// line is that of both.
func (x ask) line() string {
	return strings.Join(x.words(), " ")
}

// got is what Get answers.
type got struct {
	x   ask
	at  int
	err api.Errno
}

func get(b []byte) got {
	c, a, at, err := conf.Get(b)
	return got{of(c, a), at, err}
}

// getWants is what the page says of octets, one behind the other.
func getWants(b []byte) got {
	var x ask
	at := 0
	for i := range page {
		n := 0
		for k := range page[i].wide {
			if at+k >= len(b) {
				return got{ask{}, at + k, api.ErrForm}
			}
			n = n*256 + int(b[at+k])
		}
		if !may(i, n) {
			return got{ask{}, at, api.ErrRange}
		}
		x.l[i] = n
		at += page[i].wide
	}
	if len(b) == 9 || b[9] > 1 {
		return got{ask{}, 9, api.ErrForm}
	}
	if len(b) > 10 {
		return got{ask{}, 10, api.ErrForm}
	}
	x.stop = b[9] == 1
	return got{x, 10, api.OK}
}

var digits = regexp.MustCompile(`\A(0|-?[1-9][0-9]*)\z`)

// number is the one whose decimal the word is, if it is one of 64 bits.
func number(word string) (int64, bool) {
	// A number of 64 bits has at most 19 digits, and a sign.
	if len(word) > 20 || !digits.MatchString(word) {
		return 0, false
	}
	n, _ := new(big.Int).SetString(word, 10)
	return n.Int64(), n.IsInt64()
}

// parseWants is what the page says of a line.
func parseWants(s string) (ask, api.Errno) {
	l := slices.DeleteFunc(strings.Split(s, " "), func(word string) bool { return word == "" })
	if len(l) != 8 || l[7] != "stop" && l[7] != "all" {
		return ask{}, api.ErrForm
	}
	x, err := ask{stop: l[7] == "stop"}, api.OK
	for i, word := range l[:7] {
		if page[i].names != nil {
			n := slices.Index(page[i].names, word)
			if n < 0 {
				return ask{}, api.ErrForm
			}
			x.l[i] = page[i].least + n
			continue
		}
		n, ok := number(word)
		if !ok {
			return ask{}, api.ErrForm
		}
		if n < int64(page[i].least) || n > int64(page[i].most) {
			err = api.ErrRange
			continue
		}
		x.l[i] = int(n)
	}
	if err != api.OK {
		return ask{}, err
	}
	return x, api.OK
}

// wrongNumbers is what is wrong with what Check, CheckAsk, Put and Line answer; nothing, if it is as the page says.
func wrongNumbers(x ask) string {
	told := ""
	c, a := x.pair()
	if err := conf.Check(c); err != x.wants(0, 5) {
		told += fmt.Sprintf("Check(%+v) = %d\n", c, err)
	}
	if err := conf.CheckAsk(a); err != x.wants(5, 7) {
		told += fmt.Sprintf("CheckAsk(%+v) = %d\n", a, err)
	}
	want := x.wants(0, 7)
	var octets []byte
	line := ""
	if want == api.OK {
		octets, line = x.octets(), x.line()
	}
	if b, err := conf.Put(c, a); !bytes.Equal(b, octets) || err != want {
		told += fmt.Sprintf("Put(%+v, %+v) = %v, %d, want %v, %d\n", c, a, b, err, octets, want)
	}
	if s, err := conf.Line(c, a); s != line || err != want {
		told += fmt.Sprintf("Line(%+v, %+v) = %q, %d, want %q, %d\n", c, a, s, err, line, want)
	}
	return told
}

// wrongGet is what is wrong with what Get answers.
func wrongGet(b []byte) string {
	if g, want := get(b), getWants(b); g != want {
		return fmt.Sprintf("Get(%v) = %+v, want %+v\n", b[:min(len(b), 40)], g, want)
	}
	return ""
}

// wrongParse is what is wrong with what Parse answers.
func wrongParse(s string) string {
	c, a, err := conf.Parse(s)
	if want, wantErr := parseWants(s); of(c, a) != want || err != wantErr {
		return fmt.Sprintf("Parse(%.300q) = %+v, %+v, %d, want %+v, %d\n", s, c, a, err, want, wantErr)
	}
	return ""
}

func hold(t *testing.T, told string) {
	t.Helper()
	if told != "" {
		t.Error(told)
	}
}

// holdMay holds that both may be, and that they are the same behind octets, and behind a line.
func holdMay(t *testing.T, x ask) {
	t.Helper()
	c, a := x.pair()
	b, err := conf.Put(c, a)
	s, told := conf.Line(c, a)
	if conf.Check(c) != api.OK || conf.CheckAsk(a) != api.OK || err != api.OK || told != api.OK {
		t.Errorf("%+v, %+v may not be", c, a)
	}
	holdGet(t, b, got{x, 10, api.OK})
	holdParse(t, s, x)
	hold(t, wrongNumbers(x))
}

// holdNot holds that one of both may not be, and has no octets and no line.
func holdNot(t *testing.T, x ask) {
	t.Helper()
	c, a := x.pair()
	if b, err := conf.Put(c, a); len(b) > 0 || err != api.ErrRange {
		t.Errorf("Put(%+v, %+v) = %v, %d", c, a, b, err)
	}
	if s, err := conf.Line(c, a); s != "" || err != api.ErrRange {
		t.Errorf("Line(%+v, %+v) = %q, %d", c, a, s, err)
	}
	hold(t, wrongNumbers(x))
}

func holdGet(t *testing.T, b []byte, want got) {
	t.Helper()
	if g := get(b); g != want {
		t.Errorf("Get(%v) = %+v, want %+v", b[:min(len(b), 40)], g, want)
	}
	hold(t, wrongGet(b))
}

// wrongAt holds that the octets are refused there, with a config and an ask that are empty.
func wrongAt(t *testing.T, b []byte, at int, why api.Errno) {
	t.Helper()
	holdGet(t, b, got{ask{}, at, why})
}

// holdParse holds that the line is that of both.
func holdParse(t *testing.T, s string, want ask) {
	t.Helper()
	if c, a, err := conf.Parse(s); of(c, a) != want || err != api.OK {
		t.Errorf("Parse(%.300q) = %+v, %+v, %d, want %+v", s, c, a, err, want)
	}
	hold(t, wrongParse(s))
}

// noLine holds that the line is refused, with a config and an ask that are empty.
func noLine(t *testing.T, s string, why api.Errno) {
	t.Helper()
	if c, a, err := conf.Parse(s); c != (api.Config{}) || a != (api.Ask{}) || err != why {
		t.Errorf("Parse(%.300q) = %+v, %+v, %d, want %d", s, c, a, err, why)
	}
	hold(t, wrongParse(s))
}

// least and greatest are what has each number as small, or as great, as it may be; middle has no two alike that could be taken for each other.
var (
	least    = ask{[7]int{0, 0, 1, 0, 1, 1, 0}, false}
	greatest = ask{[7]int{3, 1, 8, 16, 4, 3, 1 << 20}, true}
	middle   = ask{[7]int{2, 1, 7, 11, 4, 3, 0x0a0b0c}, true}
)

// some are such that may be.
func some() []ask {
	return []ask{
		least, greatest, middle,
		{[7]int{1, 1, 2, 8, 1, 2, 1000}, false},
		{[7]int{0, 1, 8, 0, 4, 1, 1}, true},
		{[7]int{3, 0, 1, 16, 1, 3, 255}, true},
		{[7]int{2, 0, 5, 3, 2, 2, 256}, false},
		{[7]int{1, 0, 6, 9, 3, 1, 65535}, true},
		{[7]int{2, 1, 3, 1, 2, 3, 65536}, false},
	}
}

// budgets are some that may be, of one, two and three octets.
var budgets = []int{0, 1, 2, 9, 10, 100, 127, 128, 254, 255, 256, 257, 999, 1000, 4096, 32767, 32768, 65280, 65535, 65536, 65537, 100000, 0x0a0b0c, 0x0fff00, 0x0fffff, 1<<20 - 1, 1 << 20}

// outside are numbers that may not be at that place, some of which have lowest bits that may.
func outside(place int) []int {
	lo, hi := page[place].least, page[place].most
	l := []int{lo - 1, hi + 1, lo - 2, hi + 2, -1, -2, -255, -256, 1<<24 - 1, 1 << 24, math.MinInt, math.MinInt + 1, math.MaxInt - 1, math.MaxInt, math.MinInt32, math.MaxInt32}
	for _, n := range []int{lo, hi, (lo + hi) / 2} {
		for _, w := range []int{21, 24, 30, 31, 32, 33, 40, 48, 62, 63} {
			l = append(l, n+1<<w, n-1<<w, -n-1<<w)
		}
		if hi < 255 {
			l = append(l, n+1<<8, n-1<<8, n+1<<16, 17, 127, 128, 255)
		}
	}
	return slices.DeleteFunc(l, func(n int) bool { return may(place, n) })
}

// chance is a row of numbers without a short beat.
type chance uint64

func (c *chance) next(below int) int {
	*c = *c*6364136223846793005 + 1442695040888963407
	return int(uint64(*c) >> 33 % uint64(below))
}

// ask is one that may be.
func (c *chance) ask() ask {
	x := ask{stop: c.next(2) == 0}
	for i := range page {
		x.l[i] = page[i].least + c.next(page[i].most-page[i].least+1)
	}
	if c.next(2) == 0 {
		x.l[budget] = budgets[c.next(len(budgets))]
	}
	return x
}

// odd is one that may be but for a few numbers.
func (c *chance) odd() ask {
	x := c.ask()
	for range c.next(3) {
		place := c.next(7)
		l := outside(place)
		x.l[place] = l[c.next(len(l))]
	}
	return x
}

// octets are some that are such an ask's but for a few.
func (c *chance) octets() []byte {
	b := c.ask().octets()
	for range c.next(3) {
		b[c.next(10)] = byte(c.next(256))
	}
	switch c.next(6) {
	case 0:
		return b[:c.next(11)]
	case 1:
		return append(b, make([]byte, c.next(4))...)
	default:
		return b
	}
}

// word is some word.
func (c *chance) word() string {
	switch c.next(5) {
	case 0:
		return noDecimals[c.next(len(noDecimals))]
	case 1:
		return allNames[c.next(len(allNames))]
	case 2:
		l := noNames()
		return l[c.next(len(l))]
	case 3:
		return fmt.Sprint(outside(budget)[c.next(len(outside(budget)))])
	default:
		return fmt.Sprint(c.next(12) - 1)
	}
}

// apart is the words as a line, with more blanks.
func (c *chance) apart(l []string) string {
	var b strings.Builder
	for i, word := range l {
		b.WriteString(strings.Repeat(" ", c.next(3)+min(i, 1)))
		b.WriteString(word)
	}
	return b.String() + strings.Repeat(" ", c.next(3))
}

// line is one that is an ask's but for a few words.
func (c *chance) line() string {
	l := c.ask().words()
	for range c.next(3) {
		switch i := c.next(len(l)); c.next(6) {
		case 0:
			l = slices.Insert(l, i, c.word())
		case 1:
			l = slices.Delete(l, i, i+1)
		case 2:
			l[i] = fmt.Sprint([]int{-1, 0, 4, 5, 8, 9, 16, 17, 1 << 20, 1<<20 + 1}[c.next(10)])
		default:
			l[i] = c.word()
		}
	}
	return c.apart(l)
}

// allNames are the names of each kind.
var allNames = []string{"manual", "hazard", "epoch", "quiet", "sc", "tso", "full", "dpor", "cache", "stop", "all"}

// noNames are words that are no names.
func noNames() []string {
	l := []string{"0", "1", "2", "3", "-1", "00", "-", "#", "none", "ebr", "hp", "qsbr", "pso", "arm", "go", "stop!", "all.", "\t", "\r", "\n", "\x00", "\xff", "é", "manual,", "ｓｃ", "stops", "dpor1", "warrener", "thread", "nil", "true", "false"}
	for _, name := range allNames {
		for i := range name {
			l = append(l, name[:i]+strings.ToUpper(name[i:i+1])+name[i+1:], name[:i]+name[i+1:], name[:i]+name[i:i+1]+name[i:])
			l = append(l, name[:i], name[i+1:])
		}
		for _, more := range []string{"s", "0", "1", "\x00", "\n", "\r", "\t", ".", "\u00a0"} {
			l = append(l, name+more, more+name)
		}
		l = append(l, strings.ToUpper(name), name+name)
	}
	return slices.DeleteFunc(l, func(word string) bool { return word == "" || slices.Contains(allNames, word) })
}

// noDecimals are words that are no decimals of 64 bits.
var noDecimals = []string{
	"00", "01", "02", "08", "016", "0000000000000000000001", "-0", "-00", "-01", "+0", "+1", "+2", "-", "+", "--1", "-+1", "1-", "a", "one", "1a", "a1", "x", "0x1", "0b1", "0o1", "1_0", "1e1", "1.0", "1.", ".5", "NaN", "Inf", "nil",
	"9223372036854775808", "-9223372036854775809", "10000000000000000000", "18446744073709551615", "18446744073709551616", "18446744073709551617", "18446744073709551618", "-18446744073709551615", "99999999999999999999999999999999",
	"1\r", "\t1", "1\t", "1\v", "1\n", "\n1", "\x001", "1\x00", "\xff", "é", "\u0661", "1\u00a0", "\u00a01", "#1", "1#", "#", ",", "1,", "1;", "manual", "sc", "full", "stop", "all",
}

// P14.1: each number by itself, from its least to its greatest, and beyond, in a config and an ask that may be but for it.
func TestCheckEach(t *testing.T) {
	for _, x := range some() {
		holdMay(t, x)
		for place := range page {
			for n := page[place].least - 3; n <= min(page[place].most+3, 600); n++ {
				hold(t, wrongNumbers(x.with(place, n)))
			}
			for _, n := range []int{page[place].least, page[place].most} {
				holdMay(t, x.with(place, n))
			}
			for _, n := range outside(place) {
				holdNot(t, x.with(place, n))
			}
		}
	}
}

// P14.1: bounds written out, beside which all may be.
func TestCheckBounds(t *testing.T) {
	may := api.Config{Scheme: 1, Order: 1, Threshold: 2, Fuel: 8, Depth: 1}
	for _, n := range []struct {
		field     func(c *api.Config) *int
		lo, below int
		hi, above int
	}{
		{func(c *api.Config) *int { return &c.Scheme }, api.Manual, -1, api.Quiet, 4},
		{func(c *api.Config) *int { return &c.Order }, api.SC, -1, api.TSO, 2},
		{func(c *api.Config) *int { return &c.Threshold }, 1, 0, api.MaxThreshold, 9},
		{func(c *api.Config) *int { return &c.Fuel }, 0, -1, api.MaxFuel, 17},
		{func(c *api.Config) *int { return &c.Depth }, 1, 0, api.MaxDepth, 5},
	} {
		c := may
		for _, in := range []int{n.lo, n.hi} {
			*n.field(&c) = in
			if err := conf.Check(c); err != api.OK {
				t.Errorf("Check(%+v) = %d", c, err)
			}
		}
		for _, out := range []int{n.below, n.above, math.MinInt, math.MaxInt} {
			*n.field(&c) = out
			if err := conf.Check(c); err != api.ErrRange {
				t.Errorf("Check(%+v) = %d", c, err)
			}
		}
	}
	for _, stop := range []bool{false, true} {
		for _, n := range []struct {
			mode, budget int
			want         api.Errno
		}{
			{api.Full, 0, api.OK}, {api.Dpor, 1000, api.OK}, {api.Cache, api.MaxBudget, api.OK}, {api.Full, 1048576, api.OK}, {api.Cache, 0, api.OK},
			{0, 0, api.ErrRange}, {4, 0, api.ErrRange}, {-1, 0, api.ErrRange}, {math.MinInt, 0, api.ErrRange}, {math.MaxInt, 0, api.ErrRange},
			{1, -1, api.ErrRange}, {2, 1048577, api.ErrRange}, {3, math.MinInt, api.ErrRange}, {1, math.MaxInt, api.ErrRange},
			{0, -1, api.ErrRange}, {4, 1048577, api.ErrRange},
		} {
			if err := conf.CheckAsk(api.Ask{Mode: n.mode, Budget: n.budget, Stop: stop}); err != n.want {
				t.Errorf("CheckAsk of %+v = %d", n, err)
			}
		}
	}
	if conf.Check(api.Config{}) != api.ErrRange || conf.CheckAsk(api.Ask{}) != api.ErrRange {
		t.Errorf("an empty config, or an empty ask, may be")
	}
}

// P14.1: several numbers at once that may not be.
func TestCheckSeveral(t *testing.T) {
	for _, x := range some() {
		for which := range 1 << 7 {
			for _, high := range []int{0, 127, which, ^which} {
				y := x
				for i := range page {
					switch {
					case which>>i&1 == 0:
					case high>>i&1 == 0:
						y.l[i] = page[i].least - 1
					default:
						y.l[i] = page[i].most + 1
					}
				}
				if which == 0 {
					holdMay(t, y)
				} else {
					holdNot(t, y)
				}
			}
		}
	}
	// Numbers that may not be don't make up for each other.
	for _, n := range []int{math.MinInt, math.MinInt + 1, math.MinInt32, -1, 99, math.MaxInt32, math.MaxInt} {
		holdNot(t, ask{[7]int{n, n, n, n, n, n, n}, true})
		holdNot(t, ask{[7]int{n, -n, n, -n, n, -n, n}, false})
	}
}

// P14.2: Put, octet by octet, in the chapter's order.
func TestPut(t *testing.T) {
	for _, c := range []struct {
		c    api.Config
		a    api.Ask
		want []byte
	}{
		{api.Config{Scheme: api.Hazard, Order: api.TSO, Threshold: 2, Fuel: 8, Depth: 1}, api.Ask{Mode: api.Dpor, Budget: 1000}, []byte{1, 1, 2, 8, 1, 2, 0, 3, 232, 0}},
		{api.Config{Threshold: 1, Depth: 1}, api.Ask{Mode: api.Full}, []byte{0, 0, 1, 0, 1, 1, 0, 0, 0, 0}},
		{api.Config{Threshold: 1, Depth: 1}, api.Ask{Mode: api.Full, Stop: true}, []byte{0, 0, 1, 0, 1, 1, 0, 0, 0, 1}},
		{api.Config{Scheme: api.Quiet, Order: api.TSO, Threshold: 8, Fuel: 16, Depth: 4}, api.Ask{Mode: api.Cache, Budget: api.MaxBudget, Stop: true}, []byte{3, 1, 8, 16, 4, 3, 16, 0, 0, 1}},
		{api.Config{Scheme: api.Epoch, Order: api.SC, Threshold: 7, Fuel: 11, Depth: 4}, api.Ask{Mode: api.Cache, Budget: 0x0a0b0c}, []byte{2, 0, 7, 11, 4, 3, 10, 11, 12, 0}},
		{api.Config{Scheme: api.Manual, Order: api.TSO, Threshold: 5, Fuel: 6, Depth: 3}, api.Ask{Mode: api.Dpor, Budget: 255, Stop: true}, []byte{0, 1, 5, 6, 3, 2, 0, 0, 255, 1}},
		{api.Config{Scheme: api.Manual, Order: api.TSO, Threshold: 5, Fuel: 6, Depth: 3}, api.Ask{Mode: api.Dpor, Budget: 256}, []byte{0, 1, 5, 6, 3, 2, 0, 1, 0, 0}},
		{api.Config{Scheme: api.Manual, Order: api.TSO, Threshold: 5, Fuel: 6, Depth: 3}, api.Ask{Mode: api.Dpor, Budget: 65535}, []byte{0, 1, 5, 6, 3, 2, 0, 255, 255, 0}},
		{api.Config{Scheme: api.Manual, Order: api.TSO, Threshold: 5, Fuel: 6, Depth: 3}, api.Ask{Mode: api.Dpor, Budget: 65536, Stop: true}, []byte{0, 1, 5, 6, 3, 2, 1, 0, 0, 1}},
		{api.Config{Scheme: api.Manual, Order: api.TSO, Threshold: 5, Fuel: 6, Depth: 3}, api.Ask{Mode: api.Dpor, Budget: 1048575}, []byte{0, 1, 5, 6, 3, 2, 15, 255, 255, 0}},
	} {
		if b, err := conf.Put(c.c, c.a); !bytes.Equal(b, c.want) || err != api.OK {
			t.Errorf("Put(%+v, %+v) = %v, %d, want %v", c.c, c.a, b, err, c.want)
		}
		holdGet(t, c.want, got{of(c.c, c.a), 10, api.OK})
	}
}

// P14.2: Put and Line of a config that may not be with an ask that may, the other way round, and of both.
func TestOneOfBoth(t *testing.T) {
	for _, x := range some() {
		for i := range 5 {
			for j := 5; j < 7; j++ {
				for _, n := range []int{page[i].least - 1, page[i].most + 1} {
					for _, m := range []int{page[j].least - 1, page[j].most + 1} {
						holdNot(t, x.with(i, n))
						holdNot(t, x.with(j, m))
						holdNot(t, x.with(i, n).with(j, m))
					}
				}
			}
		}
		c, a := x.pair()
		if b, err := conf.Put(api.Config{}, a); len(b) > 0 || err != api.ErrRange {
			t.Errorf("Put of an empty config = %v, %d", b, err)
		}
		if b, err := conf.Put(c, api.Ask{}); len(b) > 0 || err != api.ErrRange {
			t.Errorf("Put of an empty ask = %v, %d", b, err)
		}
		if s, err := conf.Line(api.Config{}, a); s != "" || err != api.ErrRange {
			t.Errorf("Line of an empty config = %q, %d", s, err)
		}
		if s, err := conf.Line(c, api.Ask{}); s != "" || err != api.ErrRange {
			t.Errorf("Line of an empty ask = %q, %d", s, err)
		}
	}
}

// P14.2: of each number of octets but ten the place at which one lacks, or is too many, is told.
func TestHowMany(t *testing.T) {
	wrongAt(t, nil, 0, api.ErrForm)
	wrongAt(t, []byte{}, 0, api.ErrForm)
	for _, x := range some() {
		b := x.octets()
		for n := range 10 {
			wrongAt(t, b[:n:n], n, api.ErrForm)
			// What stands in the room behind the end is none of them.
			wrongAt(t, b[:n], n, api.ErrForm)
		}
		holdGet(t, b, got{x, 10, api.OK})
		holdGet(t, append(slices.Clone(b), 7, 7, 7)[:10], got{x, 10, api.OK})
		for _, more := range []int{1, 2, 3, 5, 10, 246, 1000, 1 << 16, 1 << 20} {
			for _, n := range []byte{0, 1, 2, 255} {
				wrongAt(t, append(slices.Clone(b), bytes.Repeat([]byte{n}, more)...), 10, api.ErrForm)
			}
		}
	}
}

// P14.2: each of the first six octets, from 0 to 255.
func TestOctets(t *testing.T) {
	for _, x := range some() {
		for i := range 6 {
			for n := range 256 {
				b := x.octets()
				b[i] = byte(n)
				for end := i + 1; end <= 10; end++ {
					switch {
					case !may(i, n):
						wrongAt(t, b[:end], i, api.ErrRange)
					case end < 10:
						wrongAt(t, b[:end], end, api.ErrForm)
					default:
						holdGet(t, b, got{x.with(i, n), 10, api.OK})
					}
				}
				if !may(i, n) {
					wrongAt(t, append(b, 0, 0), i, api.ErrRange)
				}
			}
		}
	}
}

// P14.2: octets written out, one below a least and one above a greatest.
func TestOctetsBeside(t *testing.T) {
	for _, c := range []struct {
		at int
		n  byte
	}{
		{0, 4}, {0, 255}, {1, 2}, {1, 255}, {2, 0}, {2, 9}, {2, 255}, {3, 17}, {3, 255}, {4, 0}, {4, 5}, {4, 255}, {5, 0}, {5, 4}, {5, 255},
	} {
		b := []byte{3, 1, 8, 16, 4, 3, 16, 0, 0, 1}
		b[c.at] = c.n
		wrongAt(t, b, c.at, api.ErrRange)
	}
	for _, c := range []struct {
		at int
		n  byte
	}{
		{0, 0}, {0, 3}, {1, 0}, {1, 1}, {2, 1}, {2, 8}, {3, 0}, {3, 16}, {4, 1}, {4, 4}, {5, 1}, {5, 3},
	} {
		b := []byte{1, 1, 2, 8, 1, 2, 0, 3, 232, 0}
		b[c.at] = c.n
		x := ask{[7]int{1, 1, 2, 8, 1, 2, 1000}, false}
		holdGet(t, b, got{x.with(c.at, int(c.n)), 10, api.OK})
	}
}

// P14.2: Budgets, whole, and of which octets lack.
func TestBudget(t *testing.T) {
	for _, x := range some() {
		for _, n := range append([]int{1<<20 + 1, 1<<20 + 255, 1<<20 + 256, 1<<20 + 65536, 1 << 21, 1 << 23, 1<<23 - 1, 0xff0000, 0xff00ff, 0xffff00, 1<<24 - 1}, budgets...) {
			y := x.with(budget, n)
			b := y.octets()
			if n <= 1<<20 {
				holdGet(t, b, got{y, 10, api.OK})
				wrongAt(t, b[:9], 9, api.ErrForm)
				wrongAt(t, append(b, 0), 10, api.ErrForm)
			} else {
				wrongAt(t, b, 6, api.ErrRange)
				wrongAt(t, b[:9], 6, api.ErrRange)
				wrongAt(t, append(b, 0), 6, api.ErrRange)
				b[9] = 2
				wrongAt(t, b, 6, api.ErrRange)
			}
			for _, end := range []int{6, 7, 8} {
				wrongAt(t, b[:end], end, api.ErrForm)
			}
		}
	}
	wrongAt(t, []byte{0, 0, 1, 0, 1, 1, 16, 0, 1, 0}, 6, api.ErrRange)
	wrongAt(t, []byte{0, 0, 1, 0, 1, 1, 255, 255, 255, 0}, 6, api.ErrRange)
	wrongAt(t, []byte{0, 0, 1, 0, 1, 1, 255, 255}, 8, api.ErrForm)
	wrongAt(t, []byte{0, 0, 1, 0, 1, 1, 255}, 7, api.ErrForm)
	holdGet(t, []byte{0, 0, 1, 0, 1, 1, 16, 0, 0, 0}, got{ask{[7]int{0, 0, 1, 0, 1, 1, 1 << 20}, false}, 10, api.OK})
}

// P14.2: the last octet is 0 or 1.
func TestLastOctet(t *testing.T) {
	for _, x := range some() {
		for n := range 256 {
			b := x.octets()
			b[9] = byte(n)
			if n > 1 {
				wrongAt(t, b, 9, api.ErrForm)
				wrongAt(t, append(b, 0), 9, api.ErrForm)
				continue
			}
			y := x
			y.stop = n == 1
			holdGet(t, b, got{y, 10, api.OK})
			wrongAt(t, append(b, 0), 10, api.ErrForm)
		}
	}
}

// P14.2, P4: what is told first, where several octets are wrong, or one is wrong and one lacks.
func TestGetOrder(t *testing.T) {
	for _, c := range []struct {
		b   []byte
		at  int
		why api.Errno
	}{
		{[]byte{4}, 0, api.ErrRange},
		{[]byte{4, 2, 9, 17, 5, 4, 255, 255, 255, 9, 9}, 0, api.ErrRange},
		{[]byte{3, 2, 9, 17, 5, 4, 255, 255, 255, 9, 9}, 1, api.ErrRange},
		{[]byte{3, 1, 9, 17, 5, 4, 255, 255, 255, 9, 9}, 2, api.ErrRange},
		{[]byte{3, 1, 0, 17, 0, 0, 255, 255, 255, 9}, 2, api.ErrRange},
		{[]byte{3, 1, 8, 17, 5, 4, 255, 255, 255, 9, 9}, 3, api.ErrRange},
		{[]byte{3, 1, 8, 16, 5, 4, 255, 255, 255, 9, 9}, 4, api.ErrRange},
		{[]byte{3, 1, 8, 16, 0, 0, 255}, 4, api.ErrRange},
		{[]byte{3, 1, 8, 16, 4, 4, 255, 255, 255, 9, 9}, 5, api.ErrRange},
		{[]byte{3, 1, 8, 16, 4, 0}, 5, api.ErrRange},
		{[]byte{3, 1, 8, 16, 4, 3, 255, 255, 255, 9, 9}, 6, api.ErrRange},
		{[]byte{3, 1, 8, 16, 4, 3, 255, 255, 255}, 6, api.ErrRange},
		{[]byte{3, 1, 8, 16, 4, 3, 255, 255}, 8, api.ErrForm},
		{[]byte{3, 1, 8, 16, 4, 3, 16, 0, 0, 9, 9}, 9, api.ErrForm},
		{[]byte{3, 1, 8, 16, 4, 3, 16, 0, 0, 2}, 9, api.ErrForm},
		{[]byte{3, 1, 8, 16, 4, 3, 16, 0, 0}, 9, api.ErrForm},
		{[]byte{3, 1, 8, 16, 4, 3, 16, 0, 0, 1, 9}, 10, api.ErrForm},
		{[]byte{3, 1, 8, 16, 5}, 4, api.ErrRange},
		{[]byte{3, 1, 8, 16}, 4, api.ErrForm},
		{[]byte{3, 1, 0}, 2, api.ErrRange},
		{[]byte{3, 2}, 1, api.ErrRange},
	} {
		wrongAt(t, c.b, c.at, c.why)
	}
}

// P14.2, P14.4: what is got, put again, is the octets.
func TestGetPut(t *testing.T) {
	c := chance(3)
	for range 20000 {
		b := c.octets()
		config, asked, at, err := conf.Get(b)
		if err != api.OK {
			continue
		}
		if again, err := conf.Put(config, asked); !bytes.Equal(again, b) || err != api.OK || at != len(b) {
			t.Fatalf("%v, got and put, is %v, %d, %d", b, again, at, err)
		}
	}
}

// P14.3: lines written out: the chapter's words, with each name of each kind.
func TestLine(t *testing.T) {
	for _, c := range []struct {
		s string
		c api.Config
		a api.Ask
	}{
		{"hazard tso 2 8 1 dpor 1000 all", api.Config{Scheme: api.Hazard, Order: api.TSO, Threshold: 2, Fuel: 8, Depth: 1}, api.Ask{Mode: api.Dpor, Budget: 1000}},
		{"manual sc 1 0 1 full 0 all", api.Config{Scheme: api.Manual, Order: api.SC, Threshold: 1, Fuel: 0, Depth: 1}, api.Ask{Mode: api.Full}},
		{"manual sc 1 0 1 full 0 stop", api.Config{Scheme: api.Manual, Order: api.SC, Threshold: 1, Fuel: 0, Depth: 1}, api.Ask{Mode: api.Full, Stop: true}},
		{"epoch sc 7 11 4 cache 658188 stop", api.Config{Scheme: api.Epoch, Order: api.SC, Threshold: 7, Fuel: 11, Depth: 4}, api.Ask{Mode: api.Cache, Budget: 658188, Stop: true}},
		{"quiet tso 8 16 4 cache 1048576 stop", api.Config{Scheme: api.Quiet, Order: api.TSO, Threshold: 8, Fuel: 16, Depth: 4}, api.Ask{Mode: api.Cache, Budget: 1048576, Stop: true}},
		{"quiet sc 3 10 2 full 10 all", api.Config{Scheme: api.Quiet, Order: api.SC, Threshold: 3, Fuel: 10, Depth: 2}, api.Ask{Mode: api.Full, Budget: 10}},
		{"epoch tso 4 1 3 dpor 999999 stop", api.Config{Scheme: api.Epoch, Order: api.TSO, Threshold: 4, Fuel: 1, Depth: 3}, api.Ask{Mode: api.Dpor, Budget: 999999, Stop: true}},
	} {
		if s, err := conf.Line(c.c, c.a); s != c.s || err != api.OK {
			t.Errorf("Line(%+v, %+v) = %q, %d, want %q", c.c, c.a, s, err, c.s)
		}
		holdParse(t, c.s, of(c.c, c.a))
	}
}

// P14.3: one blank and more between the words, ahead of them and behind them.
func TestBlanks(t *testing.T) {
	for _, x := range some() {
		for _, between := range []string{" ", "  ", "   ", strings.Repeat(" ", 1000)} {
			for _, ahead := range []string{"", " ", "  ", strings.Repeat(" ", 77)} {
				for _, behind := range []string{"", " ", "  ", strings.Repeat(" ", 77)} {
					holdParse(t, ahead+strings.Join(x.words(), between)+behind, x)
				}
			}
		}
		// No other octet parts words.
		for _, between := range []string{"\t", "\n", "\r", "\v", "\f", "\x00", ",", "\u00a0", "\u2003"} {
			noLine(t, strings.Join(x.words(), between), api.ErrForm)
			for i := 1; i < 8; i++ {
				l := x.words()
				noLine(t, strings.Join(l[:i], " ")+between+strings.Join(l[i:], " "), api.ErrForm)
				noLine(t, strings.Join(l[:i], " ")+" "+between+strings.Join(l[i:], " "), api.ErrForm)
				noLine(t, strings.Join(l[:i], " ")+between+" "+strings.Join(l[i:], " "), api.ErrForm)
				noLine(t, strings.Join(l[:i], " ")+" "+between+" "+strings.Join(l[i:], " "), api.ErrForm)
			}
			noLine(t, x.line()+between, api.ErrForm)
			noLine(t, between+x.line(), api.ErrForm)
		}
	}
}

// P14.3: words that are not eight.
func TestNotEight(t *testing.T) {
	for _, s := range []string{"", " ", "  ", strings.Repeat(" ", 8), strings.Repeat(" ", 5000), "\n"} {
		noLine(t, s, api.ErrForm)
	}
	for _, x := range some() {
		l := x.words()
		for i := range 8 {
			noLine(t, strings.Join(l[:i], " "), api.ErrForm)
			noLine(t, strings.Join(l[i+1:], " "), api.ErrForm)
			noLine(t, strings.Join(slices.Delete(slices.Clone(l), i, i+1), " "), api.ErrForm)
		}
		for i := range 9 {
			for _, word := range []string{"0", "1", "all", "stop", "sc", "x", "-1", "#"} {
				noLine(t, strings.Join(slices.Insert(slices.Clone(l), i, word), " "), api.ErrForm)
			}
		}
		noLine(t, x.line()+" "+x.line(), api.ErrForm)
		noLine(t, x.line()+" "+x.line()[:1], api.ErrForm)
		noLine(t, x.line()+"\n"+x.line(), api.ErrForm)
		noLine(t, strings.Repeat("0 ", 8), api.ErrForm)
		noLine(t, strings.Join(l, ""), api.ErrForm)
	}
}

// P14.3: in place of each name a word that is none of those names, but may be one of another kind.
func TestWrongNames(t *testing.T) {
	for _, x := range some() {
		for i, right := range [8][]string{0: page[0].names, 1: page[1].names, 5: page[5].names, 7: {"stop", "all"}} {
			if right == nil {
				continue
			}
			for _, word := range append(noNames(), allNames...) {
				l := x.words()
				l[i] = word
				if slices.Contains(right, word) {
					if c, a, err := conf.Parse(strings.Join(l, " ")); err != api.OK || c == (api.Config{}) || a == (api.Ask{}) {
						t.Errorf("Parse(%q) = %+v, %+v, %d", l, c, a, err)
					}
				} else {
					noLine(t, strings.Join(l, " "), api.ErrForm)
				}
				hold(t, wrongParse(strings.Join(l, " ")))
			}
		}
	}
}

// decimals are the places of words that are decimals.
var decimals = []int{2, 3, 4, 6}

// P14.3: in place of each decimal a word that is none.
func TestNoDecimals(t *testing.T) {
	for _, x := range some() {
		for _, i := range decimals {
			for _, word := range append(noNames(), append(noDecimals, allNames...)...) {
				if _, ok := number(word); ok {
					continue
				}
				l := x.words()
				l[i] = word
				noLine(t, strings.Join(l, " "), api.ErrForm)
			}
		}
	}
}

// P14.3: decimals of numbers that may not be, and of those that just may.
func TestRange(t *testing.T) {
	far := []int64{math.MinInt64, math.MinInt64 + 1, math.MaxInt64 - 1, math.MaxInt64, -1, math.MinInt32, math.MaxInt32, math.MaxUint32, math.MaxUint32 + 1, math.MaxUint32 + 2, math.MaxUint32 + 3, 1<<24 + 1, 1<<48 + 2, 1<<62 + 1, -1<<62 + 2}
	for _, x := range some() {
		for _, i := range decimals {
			lo, hi := int64(page[i].least), int64(page[i].most)
			for _, n := range append([]int64{lo - 1, hi + 1, lo - 2, hi + 2, hi + 1<<8, hi + 1<<32, lo - 1<<32, lo + 1<<32, lo - 1<<8}, far...) {
				if lo <= n && n <= hi {
					continue
				}
				l := x.words()
				l[i] = big.NewInt(n).String()
				noLine(t, strings.Join(l, " "), api.ErrRange)
				noLine(t, " "+strings.Join(l, "   ")+" ", api.ErrRange)
			}
			for n := page[i].least; n <= min(page[i].most, 300); n++ {
				holdParse(t, x.with(i, n).line(), x.with(i, n))
			}
			holdParse(t, x.with(i, page[i].most).line(), x.with(i, page[i].most))
		}
	}
	for _, s := range []string{
		"hazard tso 0 8 1 dpor 1000 all", "hazard tso 9 8 1 dpor 1000 all", "hazard tso 2 -1 1 dpor 1000 all", "hazard tso 2 17 1 dpor 1000 all",
		"hazard tso 2 8 0 dpor 1000 all", "hazard tso 2 8 5 dpor 1000 all", "hazard tso 2 8 1 dpor -1 all", "hazard tso 2 8 1 dpor 1048577 all",
		"hazard tso 0 17 5 dpor 1048577 stop", "manual sc -1 -1 -1 full -1 stop",
		"hazard tso 9223372036854775807 8 1 dpor 1000 all", "hazard tso 2 -9223372036854775808 1 dpor 1000 all", "hazard tso 2 8 1 dpor 9223372036854775807 all", "hazard tso 4294967298 8 1 dpor 1000 all",
	} {
		noLine(t, s, api.ErrRange)
	}
}

// P14.3, P4: what is told first, where a word is wrong, and a number may not be.
func TestParseOrder(t *testing.T) {
	for _, s := range []string{
		"hazard tso 9 8 1 dpor 1000 al", "hazards tso 9 8 1 dpor 1000 all", "hazard TSO 9 8 1 dpor 1000 all", "hazard tso 9 08 1 dpor 1000 all", "hazard tso 9 8 x dpor 1000 all", "hazard tso 9 8 1 dpo 1000 all", "hazard tso 9 8 1 dpor 01000 all",
		"hazard tso x 17 1 dpor 1000 all", "hazard tso 2 8 x dpor 1048577 all", "hazard tso 2 8 0 dpor -0 all", "hazard tso 2 -1 1 dpor 1000 0", "hazard tso 2 8 1 none 1048577 stop", "x tso 2 8 1 dpor -1 stop", "hazard x 2 8 1 dpor -1 stop",
		"hazard tso 9 8 1 dpor 1000", "hazard tso 9 8 1 dpor 1000 all all", "hazard tso 9 8 1 dpor 9223372036854775808 all", "hazard tso 9223372036854775808 8 1 dpor -1 all", "9 9 9 9 9 9 9 9",
	} {
		noLine(t, s, api.ErrForm)
	}
	for _, x := range some() {
		for _, i := range decimals {
			for _, n := range []int{page[i].least - 1, page[i].most + 1} {
				for j := range 8 {
					l := x.with(i, n).words()
					if j != i {
						l[j] = "-0"
						noLine(t, strings.Join(l, " "), api.ErrForm)
					}
				}
			}
		}
	}
}

// P14.4: there and back, of every Scheme, Order, Threshold, Fuel, Depth and Mode, to stop and not to stop.
func TestThereAndBack(t *testing.T) {
	c := chance(5)
	var every func(x ask, place int)
	every = func(x ask, place int) {
		if place < budget {
			for n := page[place].least; n <= page[place].most; n++ {
				every(x.with(place, n), place+1)
			}
			return
		}
		between := c.next(page[budget].most)
		for _, n := range []int{0, between, page[budget].most} {
			x.stop = !x.stop
			holdMay(t, x.with(budget, n))
		}
	}
	every(ask{}, 0)
	every(ask{stop: true}, 0)
	for _, x := range some() {
		for _, n := range budgets {
			holdMay(t, x.with(budget, n))
			x.stop = !x.stop
			holdMay(t, x.with(budget, n))
		}
	}
	for n := 0; n <= 1<<20; n += 97 {
		holdMay(t, middle.with(budget, n))
	}
}

// P14.1 to P14.4: numbers, octets and lines by chance, of each error and of none.
func TestByChance(t *testing.T) {
	c, seen := chance(6), map[[2]int]int{}
	for range 30000 {
		x, b, s := c.odd(), c.octets(), c.line()
		seen[[2]int{0, int(x.wants(0, 7))}]++
		seen[[2]int{1, int(getWants(b).err)}]++
		_, err := parseWants(s)
		seen[[2]int{2, int(err)}]++
		if told := wrongNumbers(x) + wrongGet(b) + wrongParse(s); told != "" {
			t.Fatal(told)
		}
	}
	for _, k := range [][2]int{{0, 0}, {0, 3}, {1, 0}, {1, 1}, {1, 3}, {2, 0}, {2, 1}, {2, 3}} {
		if seen[k] < 1000 {
			t.Errorf("just %d of %v", seen[k], k)
		}
	}
}

// P1: octets and texts of any kind, also great ones, end and do not panic.
func TestAnything(t *testing.T) {
	c := chance(13)
	for _, kind := range []string{"\x00", "\n", " \n", "\xff", "\xff\x80 ", "0-+ \n", "sc \n", "\xc3\x28 #\n", "manual tso 123", "\x01", "\x00\x01\x02\x03", "é \u2028"} {
		for _, many := range []int{0, 1, 2, 3, 7, 8, 9, 10, 1000, 100000} {
			s := strings.Repeat(kind, many)
			hold(t, wrongParse(s)+wrongGet([]byte(s)))
		}
		for range 500 {
			b := make([]byte, c.next(40))
			for i := range b {
				b[i] = kind[c.next(len(kind))]
			}
			hold(t, wrongParse(string(b))+wrongGet(b))
		}
	}
	for n := range 256 {
		one := string([]byte{byte(n)})
		for i := range len(middle.line()) + 1 {
			s := middle.line()
			hold(t, wrongParse(s[:i]+one+s[i:]))
			hold(t, wrongParse(s[:i]+one))
			if i < len(s) {
				hold(t, wrongParse(s[:i]+one+s[i+1:]))
			}
		}
	}
	const many = 1 << 20
	noLine(t, strings.Repeat(" ", many), api.ErrForm)
	noLine(t, strings.Repeat("0 ", many), api.ErrForm)
	noLine(t, strings.Repeat("hazard", many), api.ErrForm)
	noLine(t, "hazard tso "+strings.Repeat("1", many)+" 8 1 dpor 1000 all", api.ErrForm)
	noLine(t, "hazard tso 2 8 1 dpor 1"+strings.Repeat("0", many)+" all", api.ErrForm)
	holdParse(t, strings.Join(middle.words(), strings.Repeat(" ", many)), middle)
	wrongAt(t, make([]byte, many), 2, api.ErrRange)
	wrongAt(t, append(middle.octets(), make([]byte, many)...), 10, api.ErrForm)
}

// taken is how many octets of memory the call takes, freed ones counted.
func taken(call func()) uint64 {
	var ahead, behind runtime.MemStats
	runtime.ReadMemStats(&ahead)
	call()
	runtime.ReadMemStats(&behind)
	return behind.TotalAlloc - ahead.TotalAlloc
}

// P1: of a great many words, or octets, no more are laid out than tell that they are too many.
func TestTooMany(t *testing.T) {
	words, octets := strings.Repeat("0 ", 1<<22), append(greatest.octets(), make([]byte, 1<<22)...)
	for _, call := range []func(){
		func() { conf.Parse(words) },
		func() { conf.Get(octets) },
	} {
		if many := taken(call); many > 1<<16 {
			t.Errorf("%d octets of memory are taken", many)
		}
	}
	noLine(t, words, api.ErrForm)
	noLine(t, greatest.line()+" "+words, api.ErrForm)
	noLine(t, strings.Repeat(" ", 1<<16)+greatest.line()+"  "+words, api.ErrForm)
	wrongAt(t, octets, 10, api.ErrForm)
}

// P2: octets that are answered, and changed thereafter, also in the room behind their end, change no other answer; two lines share nothing.
func TestApart(t *testing.T) {
	for _, x := range some() {
		c, a := x.pair()
		first, _ := conf.Put(c, a)
		second, _ := conf.Put(c, a)
		full := first[:cap(first)]
		for i := range full {
			full[i] = 99
		}
		if !bytes.Equal(second, x.octets()) {
			t.Fatalf("the second answer was changed with the first one: %v", second)
		}
		hold(t, wrongNumbers(x))
		one, _ := conf.Line(c, a)
		two, _ := conf.Line(c, a)
		if unsafe.StringData(one) == unsafe.StringData(two) {
			t.Fatalf("two lines of %+v are one", x)
		}
	}
}

// P2: what was handed in stays, and what is answered does not stand in its memory.
func TestHandedIn(t *testing.T) {
	c := chance(15)
	for range 3000 {
		b := append(c.octets(), 1, 2, 3)
		b = b[:len(b)-3]
		kept := slices.Clone(b[:cap(b)])
		g := get(b)
		if !slices.Equal(b[:cap(b)], kept) {
			t.Fatalf("the octets are %v, and were %v", b[:cap(b)], kept)
		}
		want := getWants(b)
		for i := range b {
			b[i] ^= 255
		}
		if g != want {
			t.Fatalf("Get = %+v, want %+v", g, want)
		}
		text := []byte(c.line() + " ")
		keptText := string(text)
		config, asked, err := conf.Parse(unsafe.String(&text[0], len(text)))
		if string(text) != keptText {
			t.Fatalf("the text is %q, and was %q", text, keptText)
		}
		for i := range text {
			text[i] = 'x'
		}
		if want, wantErr := parseWants(keptText); of(config, asked) != want || err != wantErr {
			t.Fatalf("Parse(%q) = %+v, %+v, %d, want %+v, %d", keptText, config, asked, err, want, wantErr)
		}
	}
}

// P3: what a call answers hangs on its arguments alone, whatever came ahead of it, and by whom else it is called.
func TestNothingElse(t *testing.T) {
	c := chance(9)
	for range 3000 {
		x, b, s := c.odd(), c.octets(), c.line()
		for range 2 {
			hold(t, wrongNumbers(x)+wrongGet(b)+wrongParse(s))
		}
	}
	var wait sync.WaitGroup
	told := make([]string, 8)
	shared := greatest.octets()
	for i := range told {
		wait.Go(func() {
			c := chance(100 + i)
			for range 1000 {
				told[i] += wrongNumbers(greatest) + wrongGet(shared) + wrongNumbers(c.odd()) + wrongGet(c.octets()) + wrongParse(c.line())
			}
		})
	}
	wait.Wait()
	for _, s := range told {
		hold(t, s)
	}
}

// FuzzGet: whatever octets are, Get answers as the page says; what it takes is the same behind a line, and put again.
func FuzzGet(f *testing.F) {
	for _, x := range some() {
		f.Add(x.octets())
		f.Add(append(x.octets(), 0))
		f.Add(x.octets()[:7])
	}
	f.Fuzz(func(t *testing.T, b []byte) {
		hold(t, wrongGet(b))
		if g := get(b); g.err == api.OK {
			holdMay(t, g.x)
		}
	})
}

// FuzzParse: whatever a text is, Parse answers as the page says; what it takes is the same behind octets, and as a line again.
func FuzzParse(f *testing.F) {
	for _, x := range some() {
		f.Add(x.line())
		f.Add("  " + strings.Join(x.words(), "   ") + " ")
	}
	f.Fuzz(func(t *testing.T, s string) {
		hold(t, wrongParse(s))
		if c, a, err := conf.Parse(s); err == api.OK {
			holdMay(t, of(c, a))
		}
	})
}

// FuzzNumbers: whatever numbers a config and an ask have, all calls answer as the page says.
func FuzzNumbers(f *testing.F) {
	for _, x := range some() {
		f.Add(x.l[0], x.l[1], x.l[2], x.l[3], x.l[4], x.l[5], x.l[6], x.stop)
	}
	f.Fuzz(func(t *testing.T, a, b, c, d, e, g, h int, stop bool) {
		x := ask{[7]int{a, b, c, d, e, g, h}, stop}
		hold(t, wrongNumbers(x))
	})
}
