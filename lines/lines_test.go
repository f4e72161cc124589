package lines_test

import (
	"math"
	"math/big"
	"slices"
	"strconv"
	"strings"
	"testing"
	"unsafe"

	"warrener/lines"
)

// plain are texts of which words and lines are made: the empty one, ordinary ones, those of any octets, those that are not written in runes, and blanks of other kinds than octet 32.
var plain = []string{
	"", "a", "b", "ab", "thread", "-", "-0", "0", "12", "#", "\x00", "\x00\x00", "a\x00b", "\x7f", "\x80", "\xff", "\xa0", "\x85", "\xc3", "\xc3\x28", "\xed\xa0\x80",
	"\t", "\r", "\v", "\f", "a\tb", "\ta", "a\r", "\r\r", "\u00a0", "a\u00a0b", "\u2028", "\u3000", "\u0120", "é", "日本", "\U0001f407", "\x1f", "!", "\x0b", "\x09", "\x8a", "\xa0\x8a", strings.Repeat("x", 40), strings.Repeat("x", 70000),
}

// edges are the numbers about the bounds of all widths, and of all counts of digits.
func edges() []int64 {
	l := []int64{0, math.MinInt64, math.MinInt64 + 1, math.MinInt64 + 2, math.MaxInt64, math.MaxInt64 - 1, math.MaxInt64 - 2}
	for i := range 63 {
		for by := int64(-3); by <= 3; by++ {
			l = append(l, 1<<i+by, -1<<i+by)
		}
	}
	for ten := int64(1); ten <= math.MaxInt64/10; ten *= 10 {
		for by := int64(-12); by <= 12; by++ {
			l = append(l, ten+by, -ten+by)
		}
	}
	return l
}

// noDecimals are texts that are no number's decimal.
func noDecimals() []string {
	l := []string{
		"", "-", "--", "--1", "-0", "--0", "-00", "00", "01", "007", "-01", "-007", "0-", "1-", "1-1", "- 1", "-+1", "+-1", "+", "+0", "+1", "+7", "+9223372036854775807",
		" ", " 0", "0 ", " 5", "5 ", "5 5", " 5 ", "-5 ", " -5", "- 5", "\t5", "5\t", "\n5", "5\n", "5\r\n", "\x005", "5\x00", "5\x006", "\x00", "\ufeff5", "5\u00a0",
		"a", "5a", "a5", "f", "0x10", "0X10", "x10", "0b1", "0o7", "0x", "1e3", "1E3", "1.0", "1.", ".5", "1,000", "1_000", "_1", "1_", "0_1", "nil", "NaN", "Inf", "-Inf", "zero", "1/1", "1:", "1/", "/", ":",
		"\u0665", "\uff15", "\u22125", "\uff0d5", "\u00b2", "5\u0665", "\xb5", "\xff5", "5\xff", "(5)", "5;", "#5", "'5'", "\"5\"",
		"9223372036854775808", "9223372036854775809", "9223372036854775810", "9223372036854775817", "9300000000000000000", "9999999999999999999", "10000000000000000000", "-9223372036854775809", "-9223372036854775810", "-9223372036854775818", "-9300000000000000000", "-9999999999999999999", "-10000000000000000000",
		"18446744073709551611", "18446744073709551615", "18446744073709551616", "18446744073709551617", "18446744073709551621", "-18446744073709551615", "-18446744073709551616", "-18446744073709551617", "36893488147419103232", "92233720368547758070", "340282366920938463463374607431768211456", "340282366920938463463374607431768211461",
		"09223372036854775807", "-09223372036854775808", "00000000000000000005", "00000000000000000000", "-00000000000000000000", "9223372036854775807 ", "-9223372036854775808 ",
	}
	for _, digit := range []string{"0", "1", "5", "9"} {
		for _, n := range []int{20, 21, 40, 1000, 70000, 1 << 20} {
			many := strings.Repeat(digit, n)
			l = append(l, many, "-"+many, many+"a", "1"+many, "-1"+many)
		}
	}
	return append(l, strings.Repeat("-", 70000), strings.Repeat("0", 70000)+"5", strings.Repeat(" ", 70000)+"5")
}

// mosts are the bounds that Small is given.
var mosts = []int{
	0, 1, 2, 3, 7, 9, 10, 16, 99, 100, 254, 255, 256, 1<<20 - 1, 1 << 20, 1<<31 - 1, 1 << 31, 1<<32 - 1, 1 << 32, 1<<32 + 5, 1 << 62, math.MaxInt - 1, math.MaxInt,
	-1, -2, -5, -255, -256, -1 << 31, -1 << 32, -1<<32 + 5, math.MinInt + 5, math.MinInt + 1, math.MinInt,
}

// chance is a row of numbers without a short beat.
type chance uint64

func (c *chance) next(below int) int {
	*c = *c*6364136223846793005 + 1442695040888963407
	return int(uint64(*c) >> 33 % uint64(below))
}

// number is one of all 64 bits, of any count of digits.
func (c *chance) number() int64 {
	n := int64(c.next(1<<31))<<33 ^ int64(c.next(1<<31))<<11 ^ int64(c.next(1<<11))
	return n >> c.next(64)
}

// text is one of up to so many octets, each of them one of the alphabet's.
func (c *chance) text(most int, alphabet string) string {
	octets := make([]byte, c.next(most+1))
	for i := range octets {
		octets[i] = alphabet[c.next(len(alphabet))]
	}
	return string(octets)
}

// octets is an alphabet of all octets.
func octets() string {
	b := make([]byte, 256)
	for i := range b {
		b[i] = byte(i)
	}
	return string(b)
}

// each calls for all texts of up to so many octets of the alphabet.
func each(alphabet string, most int, call func(s string)) {
	var more func(s string)
	more = func(s string) {
		call(s)
		if len(s) == most {
			return
		}
		for i := range len(alphabet) {
			more(s + alphabet[i:i+1])
		}
	}
	more("")
}

// modelSplit is Split by the chapter's words, octet by octet.
func modelSplit(s string) []string {
	l, line := []string{}, []byte{}
	for i := range len(s) {
		if s[i] != 10 {
			line = append(line, s[i])
			continue
		}
		l = append(l, string(line))
		line = nil
	}
	if len(line) > 0 {
		l = append(l, string(line))
	}
	return l
}

// modelWords is Words by the chapter's words, octet by octet.
func modelWords(s string) []string {
	l, word := []string{}, []byte{}
	for i := range len(s) + 1 {
		if i < len(s) && s[i] != 32 {
			word = append(word, s[i])
			continue
		}
		if len(word) > 0 {
			l = append(l, string(word))
		}
		word = nil
	}
	return l
}

// modelJoin is Join by the chapter's words.
func modelJoin(l []string) string {
	joined := []byte{}
	for i, word := range l {
		if i > 0 {
			joined = append(joined, 32)
		}
		joined = append(joined, word...)
	}
	return string(joined)
}

// modelNumber is Number by the chapter's words: digits, with - ahead of a number below 0, and no 0 ahead of others.
func modelNumber(s string) (int64, bool) {
	digits := s
	if s != "" && s[0] == '-' {
		digits = s[1:]
	}
	if digits == "" || digits[0] == '0' && s != "0" {
		return 0, false
	}
	for i := range len(digits) {
		if digits[i] < '0' || digits[i] > '9' {
			return 0, false
		}
	}
	if len(digits) > 30 {
		return 0, false
	}
	n, ok := new(big.Int).SetString(s, 10)
	if !ok || !n.IsInt64() {
		return 0, false
	}
	return n.Int64(), true
}

// modelSmall is Small by the chapter's words.
func modelSmall(s string, most int) (int, bool) {
	n, ok := modelNumber(s)
	if !ok || n < 0 || big.NewInt(n).Cmp(big.NewInt(int64(most))) > 0 {
		return 0, false
	}
	return int(n), true
}

// short is a text as a failed test tells it.
func short(s string) string {
	if len(s) > 60 {
		return strconv.Quote(s[:60]) + ".. of " + strconv.Itoa(len(s))
	}
	return strconv.Quote(s)
}

// shorts is a list as a failed test tells it.
func shorts(l []string) string {
	told := "[" + strconv.Itoa(len(l)) + "]"
	for _, s := range l[:min(len(l), 12)] {
		told += " " + short(s)
	}
	return told
}

func holdSplit(t *testing.T, s string) {
	if got, want := lines.Split(s), modelSplit(s); !slices.Equal(got, want) {
		t.Helper()
		t.Fatalf("Split(%s) = %s, want %s", short(s), shorts(got), shorts(want))
	}
}

func holdWords(t *testing.T, s string) {
	if got, want := lines.Words(s), modelWords(s); !slices.Equal(got, want) {
		t.Helper()
		t.Fatalf("Words(%s) = %s, want %s", short(s), shorts(got), shorts(want))
	}
}

func holdJoin(t *testing.T, l ...string) {
	if got, want := lines.Join(l...), modelJoin(l); got != want {
		t.Helper()
		t.Fatalf("Join of %s = %s, want %s", shorts(l), short(got), short(want))
	}
}

func holdNumber(t *testing.T, s string) {
	n, ok := lines.Number(s)
	if want, wantOK := modelNumber(s); n != want || ok != wantOK {
		t.Helper()
		t.Fatalf("Number(%s) = %d, %v, want %d, %v", short(s), n, ok, want, wantOK)
	}
}

func holdSmall(t *testing.T, s string, most int) {
	n, ok := lines.Small(s, most)
	if want, wantOK := modelSmall(s, most); n != want || ok != wantOK {
		t.Helper()
		t.Fatalf("Small(%s, %d) = %d, %v, want %d, %v", short(s), most, n, ok, want, wantOK)
	}
}

// holdBack looks at P8.2 of a number, and at its decimal.
func holdBack(t *testing.T, n int64) {
	s := lines.Decimal(n)
	if want := big.NewInt(n).String(); s != want {
		t.Helper()
		t.Fatalf("Decimal(%d) = %s", n, short(s))
	}
	if got, ok := lines.Number(s); got != n || !ok {
		t.Helper()
		t.Fatalf("Number(%s) = %d, %v", short(s), got, ok)
	}
}

// holdJoined looks at P8.2 of words.
func holdJoined(t *testing.T, l ...string) {
	if got := lines.Words(lines.Join(l...)); !slices.Equal(got, l) {
		t.Helper()
		t.Fatalf("Words of Join of %s = %s", shorts(l), shorts(got))
	}
}

// P8.1: the chapter's examples.
func TestExamples(t *testing.T) {
	if l := lines.Words("a  b"); !slices.Equal(l, []string{"a", "b"}) {
		t.Errorf("Words(a  b) = %s", shorts(l))
	}
	if n, ok := lines.Number("-0"); n != 0 || ok {
		t.Errorf("Number(-0) = %d, %v", n, ok)
	}
}

// P8.1: Split, at ordinary texts and at the edges.
func TestSplit(t *testing.T) {
	cases := []struct {
		s    string
		want []string
	}{
		{"", nil}, {"\n", []string{""}}, {"\n\n", []string{"", ""}}, {"\n\n\n", []string{"", "", ""}},
		{"a", []string{"a"}}, {"a\n", []string{"a"}}, {"a\nb", []string{"a", "b"}}, {"a\nb\n", []string{"a", "b"}},
		{"\na", []string{"", "a"}}, {"\na\n", []string{"", "a"}}, {"a\n\n", []string{"a", ""}}, {"a\n\nb", []string{"a", "", "b"}}, {"a\n\n\nb\n", []string{"a", "", "", "b"}},
		{"\n\na\n\n", []string{"", "", "a", ""}}, {" ", []string{" "}}, {"a\n ", []string{"a", " "}}, {"a b\n c \n", []string{"a b", " c "}},
		{"a\r\nb\r\n", []string{"a\r", "b\r"}}, {"a\rb", []string{"a\rb"}}, {"a\vb\fc", []string{"a\vb\fc"}}, {"a\u2028b\u0085c", []string{"a\u2028b\u0085c"}},
		{"\x00\n\x00", []string{"\x00", "\x00"}}, {"\x00", []string{"\x00"}}, {"a\n\x00", []string{"a", "\x00"}}, {"\xff\n\x80", []string{"\xff", "\x80"}}, {"\u010a\n\u0a0a", []string{"\u010a", "\u0a0a"}},
		{"warrener 1 2 0\nthread\nnew 0\n", []string{"warrener 1 2 0", "thread", "new 0"}},
	}
	for _, c := range cases {
		if got := lines.Split(c.s); !slices.Equal(got, c.want) {
			t.Errorf("Split(%q) = %s, want %s", c.s, shorts(got), shorts(c.want))
		}
	}
}

// P8.1: Words, at ordinary texts and at the edges: blanks are octet 32 alone.
func TestWords(t *testing.T) {
	cases := []struct {
		s    string
		want []string
	}{
		{"", nil}, {" ", nil}, {"  ", nil}, {"          ", nil},
		{"a", []string{"a"}}, {"a b", []string{"a", "b"}}, {"a    b", []string{"a", "b"}}, {" a", []string{"a"}}, {"a ", []string{"a"}}, {"   a  b c   ", []string{"a", "b", "c"}},
		{"a a a", []string{"a", "a", "a"}}, {"new 0 1 -2", []string{"new", "0", "1", "-2"}},
		{"a\tb", []string{"a\tb"}}, {"\t", []string{"\t"}}, {" \t ", []string{"\t"}}, {"a \tb", []string{"a", "\tb"}}, {"\n", []string{"\n"}}, {"a\nb c", []string{"a\nb", "c"}}, {"a \n b", []string{"a", "\n", "b"}}, {"a \n", []string{"a", "\n"}},
		{"a\r", []string{"a\r"}}, {"a\vb\fc", []string{"a\vb\fc"}}, {"a\u00a0b\u2003c\u3000d", []string{"a\u00a0b\u2003c\u3000d"}}, {"\u0120\u2020 x", []string{"\u0120\u2020", "x"}},
		{"\x00", []string{"\x00"}}, {" \x00 \x00", []string{"\x00", "\x00"}}, {"\xff \x80", []string{"\xff", "\x80"}}, {"\xa0", []string{"\xa0"}},
	}
	for _, c := range cases {
		if got := lines.Words(c.s); !slices.Equal(got, c.want) {
			t.Errorf("Words(%q) = %s, want %s", c.s, shorts(got), shorts(c.want))
		}
	}
}

// P8.1: Split and Words, of all texts of a few octets, and of all octets.
func TestParted(t *testing.T) {
	each("a \n", 9, func(s string) {
		holdSplit(t, s)
		holdWords(t, s)
	})
	each("\x00a \n\t\r\xff", 5, func(s string) {
		holdSplit(t, s)
		holdWords(t, s)
	})
	all := octets()
	for i := range all {
		one := all[i : i+1]
		for _, s := range []string{one, one + one, "a" + one, one + "a", "a" + one + "b", "a" + one + one + "b", " " + one + " ", "\n" + one + "\n", one + " " + one + "\n" + one} {
			holdSplit(t, s)
			holdWords(t, s)
		}
	}
	each(all, 2, func(s string) {
		holdSplit(t, s)
		holdWords(t, s)
	})
}

// P8.1: Split and Words, of texts by chance, with many and with few of what parts them.
func TestPartedByChance(t *testing.T) {
	c := chance(8)
	for _, alphabet := range []string{octets(), "ab \n", "a ", "a\n", " \n", "abcdefghij klmnopqrstuvw\n", "é日 \n\U0001f407", " \n\t\r\v\f\x00\x85\xa0"} {
		for range 1000 {
			s := c.text(80, alphabet)
			holdSplit(t, s)
			holdWords(t, s)
		}
		s := c.text(1<<20, alphabet)
		holdSplit(t, s)
		holdWords(t, s)
	}
}

// P8.1: of many lines, of as many blanks, and of long lines and words nothing is lost.
func TestPartedMany(t *testing.T) {
	const n = 1 << 18
	for _, part := range []string{"\n", " ", "a\n", "a ", " a", "\na", "\n ", " \n", "ab\n\ncd  "} {
		holdSplit(t, strings.Repeat(part, n))
		holdWords(t, strings.Repeat(part, n))
	}
	for _, s := range []string{strings.Repeat("a", n), strings.Repeat("a", n) + "\n", "\n" + strings.Repeat("a", n) + " ", strings.Repeat(" ", n) + "a", strings.Repeat("\n", n) + "a"} {
		holdSplit(t, s)
		holdWords(t, s)
	}
}

// P8.1: Join, at ordinary words and at the edges; what is joined need be no word.
func TestJoin(t *testing.T) {
	cases := []struct {
		l    []string
		want string
	}{
		{nil, ""}, {[]string{}, ""}, {[]string{""}, ""}, {[]string{"", ""}, " "}, {[]string{"", "", ""}, "  "},
		{[]string{"a"}, "a"}, {[]string{"a", "b"}, "a b"}, {[]string{"a", "b", "c"}, "a b c"}, {[]string{"a", "a"}, "a a"}, {[]string{"b", "a"}, "b a"},
		{[]string{"", "a"}, " a"}, {[]string{"a", ""}, "a "}, {[]string{"a", "", "b"}, "a  b"}, {[]string{"", "a", ""}, " a "},
		{[]string{" "}, " "}, {[]string{" ", " "}, "   "}, {[]string{" a ", "b"}, " a  b"}, {[]string{"a b", "c"}, "a b c"}, {[]string{"a\n", "\tb"}, "a\n \tb"},
		{[]string{"\x00", "\xff"}, "\x00 \xff"}, {[]string{"\xc3", "\xa9"}, "\xc3 \xa9"}, {[]string{"new", "0", "-1"}, "new 0 -1"},
	}
	for _, c := range cases {
		if got := lines.Join(c.l...); got != c.want {
			t.Errorf("Join of %s = %s, want %s", shorts(c.l), short(got), short(c.want))
		}
	}
	if got := lines.Join(); got != "" {
		t.Errorf("Join() = %s", short(got))
	}
	if got := lines.Join("a", "", "b"); got != "a  b" {
		t.Errorf("Join(a, , b) = %s", short(got))
	}
}

// P8.1: Join of all lists of up to three of the texts, and of long lists by chance.
func TestJoinMany(t *testing.T) {
	few := slices.DeleteFunc(slices.Clone(plain), func(s string) bool { return len(s) > 100 })
	for _, a := range few {
		holdJoin(t, a)
		for _, b := range few {
			holdJoin(t, a, b)
			for _, c := range few[:12] {
				holdJoin(t, a, c, b)
			}
		}
	}
	c := chance(9)
	for range 300 {
		var l []string
		for range c.next(60) {
			l = append(l, plain[c.next(len(plain))])
		}
		holdJoin(t, l...)
	}
	holdJoin(t, slices.Repeat([]string{""}, 1<<18)...)
	holdJoin(t, slices.Repeat([]string{"ab"}, 1<<18)...)
}

// P8.1: decimals, written out.
func TestDecimal(t *testing.T) {
	cases := []struct {
		n    int64
		want string
	}{
		{0, "0"}, {1, "1"}, {9, "9"}, {10, "10"}, {11, "11"}, {99, "99"}, {100, "100"}, {101, "101"}, {255, "255"}, {1000, "1000"}, {4096, "4096"}, {1048576, "1048576"},
		{-1, "-1"}, {-9, "-9"}, {-10, "-10"}, {-11, "-11"}, {-99, "-99"}, {-100, "-100"}, {-1000, "-1000"},
		{1<<31 - 1, "2147483647"}, {1 << 31, "2147483648"}, {-1 << 31, "-2147483648"}, {-1<<31 - 1, "-2147483649"}, {1<<32 - 1, "4294967295"}, {1 << 32, "4294967296"}, {1 << 53, "9007199254740992"}, {1<<53 + 1, "9007199254740993"},
		{1e18, "1000000000000000000"}, {-1e18, "-1000000000000000000"}, {1e18 - 1, "999999999999999999"},
		{math.MaxInt64, "9223372036854775807"}, {math.MaxInt64 - 1, "9223372036854775806"}, {math.MinInt64, "-9223372036854775808"}, {math.MinInt64 + 1, "-9223372036854775807"},
	}
	for _, c := range cases {
		if got := lines.Decimal(c.n); got != c.want {
			t.Errorf("Decimal(%d) = %s", c.n, short(got))
		}
		if n, ok := lines.Number(c.want); n != c.n || !ok {
			t.Errorf("Number(%s) = %d, %v", c.want, n, ok)
		}
	}
}

// P8.1: what is no number's decimal is no number.
func TestNoDecimal(t *testing.T) {
	for _, s := range noDecimals() {
		if n, ok := lines.Number(s); n != 0 || ok {
			t.Errorf("Number(%s) = %d, %v", short(s), n, ok)
		}
		for _, most := range []int{0, 5, math.MaxInt, -1} {
			if n, ok := lines.Small(s, most); n != 0 || ok {
				t.Errorf("Small(%s, %d) = %d, %v", short(s), most, n, ok)
			}
		}
	}
}

// P8.1: Number of all texts of a few octets, and of a decimal into which any octet is put, of which each octet is another one, and which lacks an octet.
func TestNumber(t *testing.T) {
	each("-+019 ", 6, func(s string) { holdNumber(t, s) })
	each(octets(), 2, func(s string) { holdNumber(t, s) })
	for _, s := range []string{"0", "7", "-7", "10", "-10", "255", "1000", "-4096", "9223372036854775807", "-9223372036854775808", "9223372036854775799", "-922337203685477580", "922337203685477581"} {
		holdNumber(t, s)
		for i := range len(s) + 1 {
			for _, one := range strings.Split(octets(), "") {
				holdNumber(t, s[:i]+one+s[i:])
				holdNumber(t, s[:i]+one+s[min(i+1, len(s)):])
			}
			holdNumber(t, s[:i]+s[min(i+1, len(s)):])
			holdNumber(t, s[:i])
			holdNumber(t, s[i:])
		}
	}
}

// P8.1: Number of digits by chance, of about as many as a number may have; most of those of 19 and of 20 are beyond the bounds.
func TestNumberByChance(t *testing.T) {
	c := chance(10)
	for range 200000 {
		s := c.text(21, "0123456789")
		holdNumber(t, s)
		holdNumber(t, "-"+s)
		holdNumber(t, "9"+s)
	}
	for _, bound := range []string{"9223372036854775808", "18446744073709551616", "36893488147419103232", "92233720368547758080"} {
		whole, _ := new(big.Int).SetString(bound, 10)
		for by := int64(-300); by <= 300; by++ {
			near := new(big.Int).Add(whole, big.NewInt(by))
			holdNumber(t, near.String())
			holdNumber(t, near.Neg(near).String())
		}
	}
}

// P8.1: Small, at the bound and about it.
func TestSmall(t *testing.T) {
	cases := []struct {
		s    string
		most int
		want int
		ok   bool
	}{
		{"0", 0, 0, true}, {"1", 0, 0, false}, {"-1", 0, 0, false}, {"0", 1, 0, true}, {"1", 1, 1, true}, {"2", 1, 0, false},
		{"255", 255, 255, true}, {"256", 255, 0, false}, {"254", 255, 254, true}, {"0", 255, 0, true}, {"-1", 255, 0, false}, {"-255", 255, 0, false}, {"257", 255, 0, false}, {"511", 255, 0, false},
		{"0", -1, 0, false}, {"-1", -1, 0, false}, {"-5", -5, 0, false}, {"-5", -1, 0, false}, {"-1", -5, 0, false}, {"5", -5, 0, false}, {"1", -1, 0, false}, {"0", math.MinInt, 0, false}, {"-9223372036854775808", math.MinInt, 0, false}, {"9223372036854775807", math.MinInt, 0, false},
		{"0", math.MaxInt, 0, true}, {"9223372036854775807", math.MaxInt, math.MaxInt, true}, {"9223372036854775806", math.MaxInt, math.MaxInt - 1, true}, {"9223372036854775807", math.MaxInt - 1, 0, false}, {"9223372036854775808", math.MaxInt, 0, false}, {"18446744073709551615", math.MaxInt, 0, false}, {"-9223372036854775808", math.MaxInt, 0, false}, {"-1", math.MaxInt, 0, false},
		{"4294967296", 255, 0, false}, {"4294967301", 255, 0, false}, {"-4294967291", 255, 0, false}, {"4294967301", math.MaxInt, 4294967301, true},
		{"", 9, 0, false}, {"-", 9, 0, false}, {"-0", 9, 0, false}, {"00", 9, 0, false}, {"05", 9, 0, false}, {"+5", 9, 0, false}, {" 5", 9, 0, false}, {"5 ", 9, 0, false}, {"5a", 9, 0, false}, {"5", 9, 5, true}, {"9", 9, 9, true}, {"10", 9, 0, false}, {"19", 9, 0, false},
	}
	for _, c := range cases {
		if n, ok := lines.Small(c.s, c.most); n != c.want || ok != c.ok {
			t.Errorf("Small(%q, %d) = %d, %v, want %d, %v", c.s, c.most, n, ok, c.want, c.ok)
		}
	}
}

// P8.1: Small of every number about each bound, of the bounds of all widths, and of all texts of a few octets.
func TestSmallMany(t *testing.T) {
	for _, most := range mosts {
		for by := int64(-3); by <= 3; by++ {
			near := new(big.Int).Add(big.NewInt(int64(most)), big.NewInt(by))
			holdSmall(t, near.String(), most)
			holdSmall(t, near.Neg(near).String(), most)
		}
		for _, n := range edges() {
			holdSmall(t, strconv.FormatInt(n, 10), most)
		}
		each("-+05 ", 4, func(s string) { holdSmall(t, s, most) })
	}
	for most := -3; most < 130; most++ {
		for n := -4; n < 140; n++ {
			holdSmall(t, strconv.Itoa(n), most)
		}
	}
}

// P8.1: Small by chance.
func TestSmallByChance(t *testing.T) {
	c := chance(11)
	for range 200000 {
		n, most := c.number(), int(c.number())
		holdSmall(t, strconv.FormatInt(n, 10), most)
		holdSmall(t, strconv.FormatInt(n, 10), int(n))
		holdSmall(t, c.text(3, "0123456789"), c.next(1000))
	}
}

// P8.2: Number of Decimal is the number, from the least one to the greatest one.
func TestThereAndBack(t *testing.T) {
	for _, n := range edges() {
		holdBack(t, n)
	}
	for n := int64(-70000); n <= 70000; n++ {
		holdBack(t, n)
	}
	for n := range int64(1000) {
		holdBack(t, math.MinInt64+n)
		holdBack(t, math.MaxInt64-n)
	}
	c := chance(12)
	for range 200000 {
		holdBack(t, c.number())
	}
}

// P8.2: no two numbers have one decimal, and Small of a decimal is the number, where it is from 0 to the bound.
func TestDecimalsApart(t *testing.T) {
	all := edges()
	slices.Sort(all)
	all = slices.Compact(all)
	whose := map[string]int64{}
	for _, n := range all {
		s := lines.Decimal(n)
		if other, there := whose[s]; there {
			t.Fatalf("Decimal(%d) = Decimal(%d) = %s", n, other, short(s))
		}
		whose[s] = n
		if got, ok := lines.Small(s, math.MaxInt); ok != (n >= 0) || ok && int64(got) != n {
			t.Fatalf("Small(%s, %d) = %d, %v", s, math.MaxInt, got, ok)
		}
	}
}

// P8.2: Words of Join are the words, if none is empty, or has a blank.
func TestWordsOfJoin(t *testing.T) {
	words := slices.DeleteFunc(slices.Clone(plain), func(s string) bool { return s == "" || strings.Contains(s, " ") })
	holdJoined(t)
	for _, a := range words {
		holdJoined(t, a)
		for _, b := range words {
			holdJoined(t, a, b)
		}
	}
	each("a\n\t", 3, func(a string) {
		each("b\n\x00", 3, func(b string) {
			if a != "" && b != "" {
				holdJoined(t, a, b, a)
				holdJoined(t, b, b, a, b)
			}
		})
	})
	c := chance(13)
	for range 2000 {
		var l []string
		for range c.next(80) {
			if word := c.text(9, "ab-0\n\t\r\x00\xff\xa0é"); word != "" {
				l = append(l, word)
			}
		}
		holdJoined(t, l...)
	}
	holdJoined(t, slices.Repeat([]string{"a"}, 1<<18)...)
}

// holdApart looks at two lists that one call answers: the first one is changed and grown, the second one stands as it stood, and so does what is answered behind them.
func holdApart(t *testing.T, name string, call func() []string) {
	t.Helper()
	first, second := call(), call()
	want := slices.Clone(second)
	for i := range first {
		first[i] = "changed"
	}
	if !slices.Equal(second, want) {
		t.Errorf("%s: %s behind a change of the other list, want %s", name, shorts(second), shorts(want))
	}
	first = append(first, "more")
	room := first[len(first):cap(first)]
	for i := range room {
		room[i] = "room"
	}
	second = append(second, "end")
	if want = append(want, "end"); !slices.Equal(second, want) {
		t.Errorf("%s: %s behind a growth of the other list, want %s", name, shorts(second), shorts(want))
	}
	if third := call(); !slices.Equal(third, want[:len(want)-1]) || !slices.Equal(second, want) {
		t.Errorf("%s: %s behind another one, that is %s, want %s", name, shorts(second), shorts(third), shorts(want))
	}
}

// P2: lists that are answered twice share nothing.
func TestListsApart(t *testing.T) {
	for _, s := range []string{"", " ", "\n", "a", "a\n\nbc\nd", " a  x bc d ", "a b\nc d\n"} {
		holdApart(t, "Split", func() []string { return lines.Split(s) })
		holdApart(t, "Words", func() []string { return lines.Words(s) })
	}
}

// P2: a list stands as it stood while other texts are parted.
func TestListsStand(t *testing.T) {
	split, words := lines.Split("a\nbc\nd"), lines.Words("a bc d")
	for _, s := range []string{"x\ny\nz\nu", "x y z u", "", "q"} {
		lines.Split(s)
		lines.Words(s)
		lines.Join(s, s)
	}
	if want := []string{"a", "bc", "d"}; !slices.Equal(split, want) || !slices.Equal(words, want) {
		t.Errorf("Split = %s, Words = %s, want %s", shorts(split), shorts(words), shorts(want))
	}
}

// P2: a list of words that is handed in is not changed, nor what stands behind it, and is not kept.
func TestJoinChangesNothing(t *testing.T) {
	given := []string{"a", "", "b c", "d", "e"}
	first := lines.Join(given[:3]...)
	if !slices.Equal(given, []string{"a", "", "b c", "d", "e"}) {
		t.Fatalf("Join changed the words to %s", shorts(given))
	}
	given[0], given[2] = "x", "y"
	if second := lines.Join(given[:3]...); first != "a  b c" || second != "x  y" {
		t.Errorf("Join = %s, then %s", short(first), short(second))
	}
}

// P2: what is answered stands as it stood when the octets that were handed in are other ones.
func TestKeepsNothing(t *testing.T) {
	given := []byte("rabbit warren\nburrow")
	s := unsafe.String(&given[0], len(given))
	split, words, joined, both := lines.Split(s), lines.Words(s), lines.Join(s), lines.Join(s[:6], s[7:13])
	copy(given, "badger badger\nbadger")
	if !slices.Equal(split, []string{"rabbit warren", "burrow"}) || !slices.Equal(words, []string{"rabbit", "warren\nburrow"}) {
		t.Errorf("Split = %s, Words = %s", shorts(split), shorts(words))
	}
	if joined != "rabbit warren\nburrow" || both != "rabbit warren" {
		t.Errorf("Join = %s and %s", short(joined), short(both))
	}
}

// P2: no two texts that are answered share memory, be they of one call or of two.
func TestTextsApart(t *testing.T) {
	var all []string
	for range 2 {
		all = append(all, lines.Split("ab\nab\ncd")...)
		all = append(all, lines.Words("ab ab  cd")...)
		all = append(all, lines.Split("a")...)
		all = append(all, lines.Words("a")...)
		all = append(all, lines.Join("ab"), lines.Join("a"), lines.Join("a", "b"), lines.Join("", "a"))
		for _, n := range []int64{0, 5, 10, 42, 99, 100, -1, -42, math.MaxInt64, math.MinInt64} {
			all = append(all, lines.Decimal(n))
		}
	}
	for i, a := range all {
		for j, b := range all[:i] {
			if unsafe.StringData(a) == unsafe.StringData(b) {
				t.Errorf("texts %d (%s) and %d (%s) share memory", i, short(a), j, short(b))
			}
		}
	}
}

// P3: what a call answers hangs on its arguments alone, whatever came ahead of it.
func TestNothingElse(t *testing.T) {
	c := chance(14)
	for range 3000 {
		s, n := plain[c.next(len(plain))], c.number()
		switch c.next(6) {
		case 0:
			holdSplit(t, s+"\n"+s)
		case 1:
			holdWords(t, s+" "+s)
		case 2:
			holdJoin(t, s, s)
		case 3:
			holdNumber(t, s)
		case 4:
			holdSmall(t, s, int(n))
		default:
			holdBack(t, n)
		}
	}
}

// P1: none of the calls panics, and each ends, whatever it is given.
func TestAnything(t *testing.T) {
	texts := append(noDecimals(), plain...)
	texts = append(texts, octets(), strings.Repeat(octets(), 300), strings.Repeat("\n", 1<<20), strings.Repeat(" ", 1<<20))
	for _, s := range texts {
		holdSplit(t, s)
		holdWords(t, s)
		holdJoin(t, s)
		holdJoin(t, s, "", s)
		holdNumber(t, s)
		for _, most := range mosts {
			holdSmall(t, s, most)
		}
	}
}
