package pick_test

import (
	"math"
	"slices"
	"testing"

	"warrener/api"
	"warrener/pick"
)

const (
	least = math.MinInt
	most  = math.MaxInt
)

// far are numbers that are no place in a short list, no agent, and no number of threads: small ones when they are cut to fewer bits among them, and both ends.
var far = []int{
	-1, -2, -3, -4, -5, -8, -16, -255, -256, -257, math.MinInt32, math.MinInt32 + 1, -1 << 32, -1<<32 + 1, -1 << 62, least, least + 1, least + 2,
	64, 128, 255, 256, 257, 258, 1 << 16, 1<<16 + 1, math.MaxInt32, 1 << 31, 1 << 32, 1<<32 + 1, 1<<32 + 2, 1 << 62, 1<<62 + 1, most - 2, most - 1, most,
}

// names are those of all agents, of 0 to 4 threads, written out.
var names = [][]string{
	{},
	{"t0", "f0"},
	{"t0", "t1", "f0", "f1"},
	{"t0", "t1", "t2", "f0", "f1", "f2"},
	{"t0", "t1", "t2", "t3", "f0", "f1", "f2", "f3"},
}

// noThreads are numbers of threads that there may not be.
func noThreads() []int {
	return append([]int{5, 6, 7, 8, 9, 10, 16, 17}, far...)
}

// chance is a row of numbers without a short beat.
type chance uint64

func (c *chance) next(below int) int {
	*c = *c*6364136223846793005 + 1442695040888963407
	return int(uint64(*c) >> 33 % uint64(below))
}

// picks are so many agents, below that one.
func (c *chance) picks(length int, below int) []int {
	var l []int
	for range length {
		l = append(l, c.next(below))
	}
	return l
}

// number is one about a list's ends, or far from them.
func (c *chance) number(length int) int {
	if c.next(4) == 0 {
		return far[c.next(len(far))]
	}
	return c.next(length+4) - 2
}

// rising is so many picks, no two of which are alike.
func rising(length int) []int {
	var l []int
	for i := range length {
		l = append(l, 10+i)
	}
	return l
}

// all goes through all lists of so many agents below that one.
func all(length int, below int) func(yield func([]int) bool) {
	return func(yield func([]int) bool) {
		count := 1
		for range length {
			count *= below
		}
		for n := range count {
			var l []int
			for range length {
				l, n = append(l, n%below), n/below
			}
			if !yield(l) {
				return
			}
		}
	}
}

// holdName fails if Name does not answer that.
func holdName(t *testing.T, a int, threads int, want string) {
	t.Helper()
	if got := pick.Name(a, threads); got != want {
		t.Fatalf("Name(%d, %d) = %q, want %q", a, threads, got, want)
	}
}

// holdAgent fails if Agent does not answer that.
func holdAgent(t *testing.T, s string, threads int, want int, is bool) {
	t.Helper()
	if got, ok := pick.Agent(s, threads); got != want || ok != is {
		t.Fatalf("Agent(%q, %d) = %d, %v, want %d, %v", s, threads, got, ok, want, is)
	}
}

// holdSwitches fails if Switches does not answer that.
func holdSwitches(t *testing.T, l []int, want int) {
	t.Helper()
	if got := pick.Switches(l); got != want {
		t.Fatalf("Switches(%v) = %d, want %d", l, got, want)
	}
}

// holdWithout fails if Without does not answer that.
func holdWithout(t *testing.T, l []int, i int, n int, want []int) {
	t.Helper()
	if got := pick.Without(l, i, n); !slices.Equal(got, want) {
		t.Fatalf("Without(%v, %d, %d) = %v, want %v", l, i, n, got, want)
	}
}

// holdSwap fails if Swap does not answer that.
func holdSwap(t *testing.T, l []int, i int, want []int) {
	t.Helper()
	if got := pick.Swap(l, i); !slices.Equal(got, want) {
		t.Fatalf("Swap(%v, %d) = %v, want %v", l, i, got, want)
	}
}

// switchesWant is what the page says: the picks of another agent than the one ahead.
func switchesWant(l []int) int {
	var switches []int
	for i, a := range l {
		if i > 0 && a != l[i-1] {
			switches = append(switches, i)
		}
	}
	return len(switches)
}

// withoutWants is what the page says, pick by pick: the i-th goes, n times, as long as there is one.
func withoutWants(l []int, i int, n int) []int {
	l = slices.Clone(l)
	for ; n >= 1 && i >= 0 && i < len(l); n-- {
		l = slices.Delete(l, i, i+1)
	}
	return l
}

// swapWants is what the page says: each place has its own pick, but the two.
func swapWants(l []int, i int) []int {
	l = slices.Clone(l)
	for place := range l {
		if place == i && place+1 < len(l) {
			l[place], l[place+1] = l[place+1], l[place]
		}
	}
	return l
}

// P30.1: Name of each agent, of -1, of as many as there are threads, and of twice as many.
func TestNameWrittenOut(t *testing.T) {
	for threads, l := range names {
		for a, name := range l {
			holdName(t, a, threads, name)
		}
		for a := len(l); a < 40; a++ {
			holdName(t, a, threads, "")
		}
		for _, a := range far {
			holdName(t, a, threads, "")
		}
	}
	holdName(t, 0, 0, "")
	holdName(t, -1, 4, "")
	holdName(t, 1, 1, "f0")
	holdName(t, 2, 1, "")
	holdName(t, 3, 4, "t3")
	holdName(t, 4, 4, "f0")
	holdName(t, 7, 4, "f3")
	holdName(t, 8, 4, "")
}

// P30.1: without a number of threads that there may be there are no agents.
func TestNameOfNoThreads(t *testing.T) {
	for _, threads := range noThreads() {
		for a := -3; a < 40; a++ {
			holdName(t, a, threads, "")
		}
		for _, a := range append([]int{threads - 1, threads, threads + 1, 2*threads - 1, 2 * threads, 2*threads + 1}, far...) {
			holdName(t, a, threads, "")
		}
	}
}

// P30.1: Agent of each name, with each number of threads: of a name of fewer threads, too, and of more.
func TestAgentWrittenOut(t *testing.T) {
	for threads, l := range names {
		for _, name := range names[4] {
			a := slices.Index(l, name)
			holdAgent(t, name, threads, max(a, 0), a >= 0)
		}
	}
	holdAgent(t, "t0", 1, 0, true)
	holdAgent(t, "f0", 1, 1, true)
	holdAgent(t, "f0", 4, 4, true)
	holdAgent(t, "f3", 4, 7, true)
	holdAgent(t, "t3", 3, 0, false)
	holdAgent(t, "f3", 3, 0, false)
	holdAgent(t, "t0", 0, 0, false)
	holdAgent(t, "f0", 0, 0, false)
}

// P30.1: without a number of threads that there may be no text is a name, the empty one neither.
func TestAgentOfNoThreads(t *testing.T) {
	for _, threads := range noThreads() {
		for _, s := range append(slices.Concat(names...), "", "t4", "f4", "t5", "f8", "t-1", "f-1") {
			holdAgent(t, s, threads, 0, false)
		}
	}
}

// P30.1: texts that are no name, whatever the number of threads.
func TestAgentOfNoName(t *testing.T) {
	texts := []string{
		"", " ", "t", "f", "0", "1", "3", "00", "-1", "t ", "f ", "t-", "f-", "tt", "ff", "tf", "ft", "0t", "3f", "tt0", "ff0", "tf0", "ft0", "t0t0", "t0f0", "t0 f0",
		"t4", "f4", "t5", "f5", "t7", "f7", "t8", "f8", "t9", "t10", "f10", "t12", "f30", "t255", "t256", "f256", "t257",
		"t4294967296", "t4294967297", "f4294967296", "t9223372036854775807", "t9223372036854775808", "f18446744073709551616", "f18446744073709551617", "t-9223372036854775808",
		"t0.0", "t0e0", "t0x0", "t0b1", "t1_0", "t0,", "t0\x00", "\x00t0", "t\x000", "t0\n", "t0\r", "\tt0", "t\t0", "t\u0661", "ｔ0", "t０", "\xff0", "t\xff",
		"thread 0", "thread0", "buffer0", "b0", "s0", "a0", "e0", "g0", "u0", "nil", "agent",
	}
	for _, name := range names[4] {
		letter, digit := name[:1], name[1:]
		texts = append(texts,
			letter+"0"+digit, letter+"00"+digit, letter+"+"+digit, letter+"-"+digit, letter+" "+digit, " "+name, name+" ", letter+digit+digit, letter+digit+"0",
			string(letter[0]-32)+digit, digit+letter, name+name, name+letter, digit+name, name+"\x00", name+".", "-"+name, "+"+name, "0"+name)
	}
	for threads := range 5 {
		for _, s := range texts {
			holdAgent(t, s, threads, 0, false)
		}
		long := make([]byte, 1<<20)
		holdAgent(t, string(long), threads, 0, false)
		holdAgent(t, "t0"+string(long), threads, 0, false)
	}
}

// P30.1: of all texts of at most two octets just the names are some, and of those of three none is.
func TestAgentOfEachText(t *testing.T) {
	for threads := range 5 {
		found := 0
		for n := range 1 << 16 {
			s := string([]byte{byte(n >> 8), byte(n)})
			a := slices.Index(names[threads], s)
			holdAgent(t, s, threads, max(a, 0), a >= 0)
			found += min(a+1, 1)
		}
		if found != 2*threads {
			t.Fatalf("%d threads: %d names of two octets", threads, found)
		}
		for n := range 256 {
			holdAgent(t, string([]byte{byte(n)}), threads, 0, false)
			for _, name := range names[threads] {
				holdAgent(t, name+string([]byte{byte(n)}), threads, 0, false)
				holdAgent(t, string([]byte{byte(n)})+name, threads, 0, false)
				holdAgent(t, name[:1]+string([]byte{byte(n)})+name[1:], threads, 0, false)
			}
		}
	}
}

// P30.1: Agent of Name is the agent, and no two agents have one name.
func TestThereAndBack(t *testing.T) {
	for threads := range 5 {
		var l []string
		for a := range 2 * threads {
			s := pick.Name(a, threads)
			holdAgent(t, s, threads, a, true)
			l = append(l, s)
		}
		slices.Sort(l)
		if len(slices.Compact(l)) != 2*threads {
			t.Fatalf("%d threads: two agents are called the same", threads)
		}
	}
}

// P30.1: Switches, written out: the chapter's example among them.
func TestSwitchesWrittenOut(t *testing.T) {
	for _, x := range []struct {
		l    []int
		want int
	}{
		{nil, 0}, {[]int{}, 0}, {[]int{0}, 0}, {[]int{7}, 0}, {[]int{0, 0}, 0}, {[]int{0, 1}, 1}, {[]int{1, 0}, 1}, {[]int{1, 1}, 0},
		{[]int{0, 0, 1, 0}, 2}, {[]int{0, 1, 0, 1}, 3}, {[]int{0, 0, 0, 0, 0}, 0}, {[]int{3, 3, 3, 3, 3, 4}, 1}, {[]int{4, 3, 3, 3, 3, 3}, 1},
		{[]int{0, 1, 2, 3, 4, 5, 6, 7}, 7}, {[]int{7, 6, 5, 4, 3, 2, 1, 0}, 7}, {[]int{1, 2, 2, 1, 1, 1, 2}, 3}, {[]int{0, 4, 0}, 2}, {[]int{5, 1, 1, 5}, 2},
		{[]int{-1, -1, 1, 1}, 1}, {[]int{least, most, least}, 2}, {[]int{least, least}, 0}, {[]int{0, 1 << 32, 1 << 32, 256}, 2}, {[]int{most, most, 0}, 1},
	} {
		holdSwitches(t, x.l, x.want)
	}
}

// P30.1: Switches of all short lists, and of long ones: of the same picks none, of picks that change one less than there are.
func TestSwitchesOfMany(t *testing.T) {
	for length := range 8 {
		for l := range all(length, 3) {
			holdSwitches(t, l, switchesWant(l))
		}
	}
	for _, length := range []int{2, 255, 256, 257, 4096, 4097, 65536, 65537, 100000} {
		same, other := make([]int, length), make([]int, length)
		for i := range length {
			other[i] = i % 2
		}
		holdSwitches(t, same, 0)
		holdSwitches(t, other, length-1)
		same[length-1] = 1
		holdSwitches(t, same, 1)
		holdSwitches(t, same[:length-1], 0)
		same[0] = 2
		holdSwitches(t, same, min(length-1, 2))
	}
	c := chance(1)
	for range 3000 {
		l := c.picks(c.next(40), 1+c.next(8))
		holdSwitches(t, l, switchesWant(l))
	}
}

// P30.1: Without, written out.
func TestWithoutWrittenOut(t *testing.T) {
	l := []int{5, 6, 7, 8}
	for _, x := range []struct {
		i, n int
		want []int
	}{
		{0, 1, []int{6, 7, 8}}, {1, 1, []int{5, 7, 8}}, {2, 1, []int{5, 6, 8}}, {3, 1, []int{5, 6, 7}},
		{0, 2, []int{7, 8}}, {1, 2, []int{5, 8}}, {2, 2, []int{5, 6}}, {3, 2, []int{5, 6, 7}},
		{0, 3, []int{8}}, {1, 3, []int{5}}, {2, 3, []int{5, 6}}, {0, 4, nil}, {0, 5, nil}, {0, most, nil},
		{1, most, []int{5}}, {2, most - 1, []int{5, 6}}, {3, most, []int{5, 6, 7}}, {3, most - 2, []int{5, 6, 7}}, {1, most - 3, []int{5}},
		{4, 1, l}, {4, most, l}, {5, 1, l}, {most, 1, l}, {most, most, l}, {-1, 1, l}, {-1, 2, l}, {-4, 8, l}, {least, 1, l}, {least, most, l},
		{0, 0, l}, {1, 0, l}, {3, -1, l}, {0, -1, l}, {1, -1, l}, {2, least, l}, {0, least, l}, {most, least, l}, {4, 0, l}, {-1, -1, l}, {least, least, l},
	} {
		holdWithout(t, l, x.i, x.n, x.want)
	}
}

// P30.1: Without of each i and n about a list's ends, and far from them.
func TestWithoutEach(t *testing.T) {
	for length := range 9 {
		l := rising(length)
		numbers := slices.Clone(far)
		for i := -length - 3; i <= 2*length+3; i++ {
			numbers = append(numbers, i)
		}
		for _, i := range numbers {
			for _, n := range append([]int{most - length, most - length + 1, least + length}, numbers...) {
				holdWithout(t, l, i, n, withoutWants(l, i, n))
			}
		}
	}
}

// P30.1: nil, and a list without an element, stay as they are.
func TestNothingToTurn(t *testing.T) {
	for _, l := range [][]int{nil, {}, []int{1, 2, 3}[:0], []int{1, 2, 3}[3:]} {
		for _, i := range append([]int{0, 1, 2, 3}, far...) {
			holdSwap(t, l, i, nil)
			for _, n := range append([]int{0, 1, 2, 3}, far...) {
				holdWithout(t, l, i, n, nil)
			}
		}
	}
}

// P30.1: long lists, parts of them, and picks of any size.
func TestWithoutLong(t *testing.T) {
	l := rising(70000)
	for _, i := range []int{0, 1, 255, 256, 4095, 4096, 65535, 65536, 69998, 69999} {
		for _, n := range []int{1, 2, 255, 256, 65536, 70000, most} {
			behind := 70000
			if n < 70000-i {
				behind = i + n
			}
			holdWithout(t, l, i, n, append(slices.Clone(l[:i]), l[behind:]...))
		}
	}
	holdWithout(t, []int{least, most, -1, 0}, 1, 1, []int{least, -1, 0})
	holdWithout(t, []int{least, most, -1, 0}, 0, 1, []int{most, -1, 0})
	holdWithout(t, []int{3, 3, 3, 3}, 1, 2, []int{3, 3})
}

// P30.1: Swap, written out.
func TestSwapWrittenOut(t *testing.T) {
	for _, x := range []struct {
		l    []int
		i    int
		want []int
	}{
		{[]int{5, 6, 7, 8}, 0, []int{6, 5, 7, 8}}, {[]int{5, 6, 7, 8}, 1, []int{5, 7, 6, 8}}, {[]int{5, 6, 7, 8}, 2, []int{5, 6, 8, 7}},
		{[]int{5, 6, 7, 8}, 3, []int{5, 6, 7, 8}}, {[]int{5, 6, 7, 8}, 4, []int{5, 6, 7, 8}}, {[]int{5, 6, 7, 8}, -1, []int{5, 6, 7, 8}}, {[]int{5, 6, 7, 8}, -2, []int{5, 6, 7, 8}},
		{[]int{5, 6, 7, 8}, most, []int{5, 6, 7, 8}}, {[]int{5, 6, 7, 8}, least, []int{5, 6, 7, 8}},
		{[]int{1, 2}, 0, []int{2, 1}}, {[]int{1, 2}, 1, []int{1, 2}}, {[]int{1, 2}, -1, []int{1, 2}},
		{[]int{1}, 0, []int{1}}, {[]int{1}, -1, []int{1}}, {[]int{1}, 1, []int{1}}, {[]int{least, most}, 0, []int{most, least}}, {[]int{4, 4, 1}, 0, []int{4, 4, 1}},
	} {
		holdSwap(t, x.l, x.i, x.want)
	}
}

// P30.1: Swap of each i about a list's ends, and far from them; twice, it is as it was.
func TestSwapEach(t *testing.T) {
	for _, length := range []int{0, 1, 2, 3, 4, 5, 6, 7, 8, 255, 256, 257, 300} {
		l := rising(length)
		numbers := slices.Clone(far)
		for i := -length - 3; i <= 2*length+3; i++ {
			numbers = append(numbers, i)
		}
		for _, i := range numbers {
			holdSwap(t, l, i, swapWants(l, i))
			if !slices.Equal(pick.Swap(pick.Swap(l, i), i), l) {
				t.Fatalf("Swap of Swap of %v at %d is another one", l, i)
			}
		}
	}
}

// P30.3: without picks there are no more switches, of all short lists.
func TestNoMoreSwitches(t *testing.T) {
	for length := range 7 {
		for l := range all(length, 3) {
			for i := -1; i <= length; i++ {
				for n := -1; n <= length+1; n++ {
					holdNoMore(t, l, i, n)
				}
			}
		}
	}
}

// P30.3: likewise of long lists, of any agents and numbers.
func TestNoMoreSwitchesOfMany(t *testing.T) {
	c := chance(2)
	for range 20000 {
		length := c.next(60)
		l := c.picks(length, 1+c.next(2*api.MaxThreads))
		holdNoMore(t, l, c.number(length), c.number(length))
	}
	for _, l := range [][]int{{least, most, least}, {-1, 0, -1, 0}, {8, 9, 1 << 32, 0, 8}} {
		for i := -1; i < 6; i++ {
			for n := -1; n < 6; n++ {
				holdNoMore(t, l, i, n)
			}
		}
	}
}

// holdNoMore fails if the list without those picks is not what the page says, or has more switches.
func holdNoMore(t *testing.T, l []int, i int, n int) {
	t.Helper()
	holdWithout(t, l, i, n, withoutWants(l, i, n))
	if got, were := pick.Switches(pick.Without(l, i, n)), switchesWant(l); got > were {
		t.Fatalf("Without(%v, %d, %d) has %d switches, not %d", l, i, n, got, were)
	}
}
