package table_test

import (
	"math"
	"slices"
	"strconv"
	"strings"
	"testing"
	"unsafe"

	"warrener/mix"
	"warrener/table"
)

// sums are what texts stand under: ordinary ones, 0 and the greatest one, and such as are one number when they are cut to fewer bits or held with a sign.
var sums = []uint64{
	0, 1, 2, 5, 7, 255, 256, 257, 65535, 65536, 65541, 1<<31 - 1, 1 << 31, 1<<31 + 5, 1<<32 - 1, 1 << 32, 1<<32 + 5, 5 << 32,
	1 << 52, 1 << 53, 1<<53 + 1, 1<<62 + 5, 1<<63 - 1, 1 << 63, 1<<63 + 5, math.MaxUint64 - 1, math.MaxUint64,
}

// texts are of any octets: the empty one, those that are near to others at either end, those that look alike, those that are not written in runes, long ones that part at one octet.
var texts = []string{
	"", "a", "b", "A", "aa", "ab", "ba", "abc", "abd", "bbc", "a ", " a", " ", "  ", "\t", "\n", "a\n", "\r\n", "0", "00", "-0", "nil", "true",
	"\x00", "\x00\x00", "a\x00", "\x00a", "a\x00b", "a\x00c", "\x7f", "\x80", "\xff", "\xff\xff", "\xfe", "\xc3", "\xc3\x28", "\xed\xa0\x80", "\ufffd",
	"é", "e\u0301", "É", "ß", "ss", "ﬁ", "fi", "日本", "日", "本", "\U0001f407", "K", "\u212a",
	strings.Repeat("a", 15), strings.Repeat("a", 16), strings.Repeat("a", 17), strings.Repeat("a", 64), strings.Repeat("\x00", 64),
	strings.Repeat("x", 300), strings.Repeat("x", 299) + "y", "y" + strings.Repeat("x", 299), strings.Repeat("x", 150) + "y" + strings.Repeat("x", 149), strings.Repeat("x", 70000), strings.Repeat("x", 70000) + "y", strings.Repeat("x", 70001),
}

// far are numbers that no text of these tests has: both ends, and those that are some text's number when they are cut to fewer bits.
var far = []int{
	-1, -2, -3, -255, -256, -65536, -1 << 31, -1<<31 + 1, -1 << 32, -1<<32 + 1, -1 << 62, math.MinInt, math.MinInt + 1, math.MinInt + 2,
	1 << 31, 1 << 32, 1<<32 + 1, 1<<32 + 2, 1<<62 + 1, math.MaxInt - 1, math.MaxInt,
}

// strangers are tables that New did not make, each of them new.
func strangers() []*table.Table {
	return []*table.Table{nil, {}, new(table.Table)}
}

// entry is a text under a sum.
type entry struct {
	h uint64
	s string
}

// model is a table by the chapter's words: a plain row of what came.
type model struct {
	came    []entry
	clashes int
}

func (m *model) find(h uint64, s string) (int, bool) {
	if i := slices.Index(m.came, entry{h, s}); i >= 0 {
		return i, true
	}
	return 0, false
}

func (m *model) put(h uint64, s string) (int, bool) {
	if i, there := m.find(h, s); there {
		return i, false
	}
	if slices.ContainsFunc(m.came, func(e entry) bool { return e.h == h }) {
		m.clashes++
	}
	m.came = append(m.came, entry{h, s})
	return len(m.came) - 1, true
}

func (m *model) get(i int) (uint64, string, bool) {
	if i < 0 || i >= len(m.came) {
		return 0, "", false
	}
	return m.came[i].h, m.came[i].s, true
}

// chance is a row of numbers without a short beat.
type chance uint64

func (c *chance) next(below int) int {
	*c = *c*6364136223846793005 + 1442695040888963407
	return int(uint64(*c) >> 33 % uint64(below))
}

// short is a text as a failed test tells it.
func short(s string) string {
	if len(s) > 40 {
		return strconv.Quote(s[:40]) + ".. of " + strconv.Itoa(len(s))
	}
	return strconv.Quote(s)
}

// with is a table, and its model, into which the texts came.
func with(t *testing.T, l ...entry) (*table.Table, *model) {
	t.Helper()
	b, m := table.New(), &model{}
	if b == nil {
		t.Fatal("New() = nil")
	}
	holdCounts(t, b, m)
	for _, e := range l {
		holdPut(t, b, m, e.h, e.s)
	}
	return b, m
}

func holdCounts(t *testing.T, b *table.Table, m *model) {
	for range 2 {
		if n, c := b.Len(), b.Clashes(); n != len(m.came) || c != m.clashes {
			t.Helper()
			t.Fatalf("Len() = %d, Clashes() = %d, want %d, %d", n, c, len(m.came), m.clashes)
		}
	}
}

func holdPut(t *testing.T, b *table.Table, m *model, h uint64, s string) {
	i, came := b.Put(h, s)
	if want, wantCame := m.put(h, s); i != want || came != wantCame {
		t.Helper()
		t.Fatalf("Put(%d, %s) = %d, %v, want %d, %v", h, short(s), i, came, want, wantCame)
	}
	holdCounts(t, b, m)
}

func holdFind(t *testing.T, b *table.Table, m *model, h uint64, s string) {
	i, there := b.Find(h, s)
	if want, wantThere := m.find(h, s); i != want || there != wantThere {
		t.Helper()
		t.Fatalf("Find(%d, %s) = %d, %v, want %d, %v", h, short(s), i, there, want, wantThere)
	}
}

func holdGet(t *testing.T, b *table.Table, m *model, i int) {
	h, s, there := b.Get(i)
	if wantH, wantS, wantThere := m.get(i); h != wantH || s != wantS || there != wantThere {
		t.Helper()
		t.Fatalf("Get(%d) = %d, %s, %v, want %d, %s, %v", i, h, short(s), there, wantH, short(wantS), wantThere)
	}
}

// holdState looks at all that a table tells without being changed: its counts, each number and those beyond, and where each text stands.
func holdState(t *testing.T, b *table.Table, m *model) {
	t.Helper()
	holdCounts(t, b, m)
	for i := -2; i < len(m.came)+3; i++ {
		holdGet(t, b, m, i)
	}
	for _, i := range far {
		holdGet(t, b, m, i)
	}
	for _, e := range m.came {
		holdFind(t, b, m, e.h, e.s)
	}
	holdCounts(t, b, m)
}

// holdStranger looks at every call of a table that New did not make.
func holdStranger(t *testing.T, b *table.Table) {
	t.Helper()
	for _, h := range sums {
		for _, s := range []string{"", "a", "\x00"} {
			if i, came := b.Put(h, s); i != 0 || came {
				t.Errorf("Put(%d, %q) = %d, %v", h, s, i, came)
			}
			if i, there := b.Find(h, s); i != 0 || there {
				t.Errorf("Find(%d, %q) = %d, %v", h, s, i, there)
			}
		}
	}
	for _, i := range append([]int{0, 1, 2}, far...) {
		if h, s, there := b.Get(i); h != 0 || s != "" || there {
			t.Errorf("Get(%d) = %d, %q, %v", i, h, s, there)
		}
	}
	if n, c := b.Len(), b.Clashes(); n != 0 || c != 0 {
		t.Errorf("Len() = %d, Clashes() = %d", n, c)
	}
}

// P7.1: the chapter's example: two texts under one sum are 0 and 1, and there is one clash.
func TestExample(t *testing.T) {
	b := table.New()
	if i, came := b.Put(5, "a"); i != 0 || !came {
		t.Fatalf("Put(5, a) = %d, %v", i, came)
	}
	if c := b.Clashes(); c != 0 {
		t.Fatalf("Clashes() = %d behind the first", c)
	}
	if i, came := b.Put(5, "b"); i != 1 || !came {
		t.Fatalf("Put(5, b) = %d, %v", i, came)
	}
	if c := b.Clashes(); c != 1 {
		t.Fatalf("Clashes() = %d", c)
	}
}

// P7.1: a new table has nothing, whatever is asked.
func TestNew(t *testing.T) {
	b, m := with(t)
	holdState(t, b, m)
	for _, h := range sums {
		for _, s := range texts {
			holdFind(t, b, m, h, s)
		}
	}
	holdState(t, b, m)
}

// P7.1: each text under each sum, as the first one of its table: found by both, by neither alone.
func TestOne(t *testing.T) {
	for _, h := range sums {
		for _, s := range texts {
			b, m := with(t, entry{h, s})
			holdState(t, b, m)
			for _, other := range sums {
				holdFind(t, b, m, other, s)
			}
			for _, other := range texts {
				holdFind(t, b, m, h, other)
			}
			holdPut(t, b, m, h, s)
			holdState(t, b, m)
		}
	}
}

// P7.1 and P7.2: all texts under one sum: each comes once, and each but the first one is a clash.
func TestUnderOneSum(t *testing.T) {
	for _, h := range sums {
		b, m := with(t)
		for _, s := range texts {
			holdFind(t, b, m, h, s)
			holdPut(t, b, m, h, s)
			holdFind(t, b, m, h, s)
		}
		if b.Len() != len(texts) || b.Clashes() != len(texts)-1 {
			t.Fatalf("sum %d: Len() = %d, Clashes() = %d, of %d texts", h, b.Len(), b.Clashes(), len(texts))
		}
		holdState(t, b, m)
		for _, s := range texts {
			holdPut(t, b, m, h, s)
			holdFind(t, b, m, h+1, s)
		}
		holdState(t, b, m)
	}
}

// P7.1: one text under all sums: as many texts, and no clash.
func TestUnderAllSums(t *testing.T) {
	for _, s := range texts {
		b, m := with(t)
		for _, h := range sums {
			holdFind(t, b, m, h, s)
			holdPut(t, b, m, h, s)
		}
		if b.Len() != len(sums) || b.Clashes() != 0 {
			t.Fatalf("%s: Len() = %d, Clashes() = %d, under %d sums", short(s), b.Len(), b.Clashes(), len(sums))
		}
		holdState(t, b, m)
		for _, h := range slices.Backward(sums) {
			holdPut(t, b, m, h, s)
		}
		holdState(t, b, m)
	}
}

// P7.1 and P7.2: all texts under all sums, one sum behind the other, and one text behind the other.
func TestAllUnderAll(t *testing.T) {
	b, m := with(t)
	for _, h := range sums {
		for _, s := range texts {
			holdPut(t, b, m, h, s)
		}
	}
	if want := len(sums) * (len(texts) - 1); b.Clashes() != want {
		t.Fatalf("Clashes() = %d, want %d", b.Clashes(), want)
	}
	holdState(t, b, m)
	b, m = with(t)
	for _, s := range texts {
		for _, h := range slices.Backward(sums) {
			holdPut(t, b, m, h, s)
		}
	}
	if want := len(sums) * (len(texts) - 1); b.Clashes() != want {
		t.Fatalf("Clashes() = %d, want %d", b.Clashes(), want)
	}
	holdState(t, b, m)
}

// P7.1: a clash is one that came new under a sum that another text had; a text that is put again is none, nor is one that is only looked for.
func TestClashes(t *testing.T) {
	steps := []struct {
		h       uint64
		s       string
		number  int
		came    bool
		clashes int
	}{
		{9, "a", 0, true, 0}, {9, "a", 0, false, 0}, {8, "a", 1, true, 0}, {9, "b", 2, true, 1}, {9, "b", 2, false, 1}, {9, "a", 0, false, 1},
		{8, "a", 1, false, 1}, {8, "", 3, true, 2}, {8, "", 3, false, 2}, {9, "", 4, true, 3}, {0, "", 5, true, 3}, {0, "", 5, false, 3},
		{0, "a", 6, true, 4}, {7, "b", 7, true, 4}, {9, "c", 8, true, 5}, {9, "c", 8, false, 5}, {7, "b", 7, false, 5},
		{math.MaxUint64, "a", 9, true, 5}, {math.MaxUint64, "", 10, true, 6}, {math.MaxUint64, "a", 9, false, 6},
	}
	b := table.New()
	for n, c := range steps {
		b.Find(c.h, c.s)
		b.Find(c.h, c.s+"?")
		i, came := b.Put(c.h, c.s)
		if i != c.number || came != c.came || b.Clashes() != c.clashes {
			t.Fatalf("step %d: Put(%d, %q) = %d, %v, Clashes() = %d, want %d, %v, %d", n, c.h, c.s, i, came, b.Clashes(), c.number, c.came, c.clashes)
		}
	}
}

// P7.1: Find and Get change nothing, whether they find or not: what comes behind them has the number that it would have had.
func TestAskingChangesNothing(t *testing.T) {
	b, m := with(t, entry{3, "x"})
	for _, h := range sums {
		for _, s := range texts {
			holdFind(t, b, m, h, s)
			holdCounts(t, b, m)
		}
	}
	for _, i := range far {
		holdGet(t, b, m, i)
		holdCounts(t, b, m)
	}
	for _, s := range texts {
		holdPut(t, b, m, 3, s)
		holdFind(t, b, m, 4, s)
	}
	holdState(t, b, m)
}

// P7.1: nothing changes by a text that is put again, however often.
func TestPutAgain(t *testing.T) {
	b, m := with(t, entry{5, ""}, entry{5, "a"}, entry{6, "a"}, entry{0, "b"})
	for range 300 {
		for _, e := range slices.Clone(m.came) {
			holdPut(t, b, m, e.h, e.s)
		}
	}
	holdState(t, b, m)
	holdPut(t, b, m, 6, "")
	holdState(t, b, m)
}

// P7.1 and P7.2: rows of calls by chance, with few texts under few sums, so that most of them meet.
func TestByChance(t *testing.T) {
	c := chance(7)
	for range 300 {
		b, m := with(t)
		hs, ss := 1+c.next(6), 1+c.next(12)
		for range 120 {
			h, s := sums[c.next(hs)*3%len(sums)], texts[c.next(ss)*5%len(texts)]
			switch c.next(4) {
			case 0:
				holdFind(t, b, m, h, s)
			case 1:
				holdGet(t, b, m, c.next(len(m.came)+4)-2)
			default:
				holdPut(t, b, m, h, s)
			}
		}
		holdState(t, b, m)
	}
}

// P7.1 and P7.2: texts of all octets and lengths under the sums that they have (3), and under sums that are cut so short that most of them clash.
func TestSumsOfTexts(t *testing.T) {
	for _, mask := range []uint64{math.MaxUint64, 7, 1, 0, 3 << 62} {
		c := chance(77)
		b, m := with(t)
		for range 500 {
			l := make([]byte, c.next(4))
			for i := range l {
				l[i] = byte(c.next(3) * 127)
			}
			holdPut(t, b, m, mix.Sum(1, l)&mask, string(l))
		}
		holdState(t, b, m)
	}
}

// P7.1: a great many texts, under a sum each and some thousands under one: it ends soon, and each is found.
func TestMany(t *testing.T) {
	b, n := table.New(), 200000
	for again := range 2 {
		for i := range n {
			if got, came := b.Put(uint64(i)<<7, strconv.Itoa(i%1000)); got != i || came != (again == 0) {
				t.Fatalf("Put %d = %d, %v, time %d", i, got, came, again)
			}
		}
	}
	for i := range 3000 {
		if got, came := b.Put(5, strconv.Itoa(i)); got != n+i || !came {
			t.Fatalf("Put %d under one sum = %d, %v", i, got, came)
		}
	}
	for i := range 3000 {
		if got, there := b.Find(5, strconv.Itoa(i)); got != n+i || !there {
			t.Fatalf("Find %d under one sum = %d, %v", i, got, there)
		}
	}
	if b.Len() != n+3000 || b.Clashes() != 2999 {
		t.Fatalf("Len() = %d, Clashes() = %d", b.Len(), b.Clashes())
	}
	for i := range n {
		if h, s, there := b.Get(i); h != uint64(i)<<7 || s != strconv.Itoa(i%1000) || !there {
			t.Fatalf("Get(%d) = %d, %q, %v", i, h, s, there)
		}
		if got, there := b.Find(uint64(i)<<7, strconv.Itoa(i%1000)); got != i || !there {
			t.Fatalf("Find %d = %d, %v", i, got, there)
		}
	}
}

// P7.1 and P3: two tables go on apart, whichever was made first, and whichever is told more.
func TestApart(t *testing.T) {
	a, am := with(t, entry{1, "a"})
	b, bm := with(t)
	holdState(t, b, bm)
	for i, s := range texts {
		holdPut(t, a, am, uint64(i%3), s)
		holdCounts(t, b, bm)
		holdFind(t, b, bm, uint64(i%3), s)
		if i%2 == 0 {
			holdPut(t, b, bm, uint64(i%2), s)
			holdCounts(t, a, am)
		}
	}
	c, cm := with(t)
	holdState(t, c, cm)
	holdState(t, b, bm)
	holdState(t, a, am)
}

// P2: a table keeps texts of its own: what is done to the octets of which a text was made changes nothing, and what it answers is not what it keeps.
func TestMemory(t *testing.T) {
	octets := []byte("rabbit, warren")
	given := unsafe.String(&octets[0], len(octets))
	b := table.New()
	b.Put(4, given)
	b.Put(4, given[:6])
	copy(octets, "badger")
	for i, want := range []string{"rabbit, warren", "rabbit"} {
		if _, s, _ := b.Get(i); s != want {
			t.Errorf("Get(%d) = %q, want %q", i, s, want)
		}
		if got, there := b.Find(4, want); got != i || !there {
			t.Errorf("Find(4, %q) = %d, %v", want, got, there)
		}
	}
	_, first, _ := b.Get(0)
	_, second, _ := b.Get(0)
	if unsafe.StringData(first) == unsafe.StringData(second) {
		t.Error("two answers of Get share memory")
	}
}

// P1: a table that is copied as a value is one that no call made, or the one of which it is a copy: whatever is asked of either, none panics.
func TestCopied(t *testing.T) {
	for n := range 4 {
		b, m := with(t)
		for _, s := range texts[:n] {
			holdPut(t, b, m, 2, s)
		}
		copied := *b
		for _, s := range texts {
			copied.Put(2, s)
			b.Find(2, s)
			b.Put(2, s+"?")
			copied.Find(2, s+"?")
		}
		for i := range 2 * len(texts) {
			b.Get(i)
			copied.Get(i)
		}
		if b.Len() < n || b.Clashes() > b.Len() || copied.Clashes() > copied.Len() {
			t.Errorf("Len() = %d and %d, Clashes() = %d and %d", b.Len(), copied.Len(), b.Clashes(), copied.Clashes())
		}
	}
}

// P7.1: nil, and a table that New did not make, take nothing and have nothing.
func TestStranger(t *testing.T) {
	for _, b := range strangers() {
		for range 2 {
			holdStranger(t, b)
		}
	}
}

// P7.1: each call of a stranger stands by itself, too, with none ahead of it.
func TestStrangerFirst(t *testing.T) {
	calls := []func(b *table.Table) bool{
		func(b *table.Table) bool { i, came := b.Put(5, "a"); return i == 0 && !came },
		func(b *table.Table) bool { i, there := b.Find(5, "a"); return i == 0 && !there },
		func(b *table.Table) bool { h, s, there := b.Get(0); return h == 0 && s == "" && !there },
		func(b *table.Table) bool { return b.Len() == 0 },
		func(b *table.Table) bool { return b.Clashes() == 0 },
	}
	for i, call := range calls {
		for j, b := range strangers() {
			if !call(b) {
				t.Errorf("call %d of stranger %d", i, j)
			}
			holdStranger(t, b)
		}
	}
}

// P7.1: tables that New made stand as they stood while strangers are tried.
func TestStrangerBeside(t *testing.T) {
	b, m := with(t, entry{5, "a"}, entry{5, "b"})
	for _, s := range strangers() {
		holdStranger(t, s)
		holdState(t, b, m)
	}
	holdPut(t, b, m, 5, "c")
}
