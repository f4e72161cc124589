package set_test

import (
	"math"
	"slices"
	"testing"

	"warrener/set"
)

// outside are numbers that are in no set: about both bounds, those that are some number from 0 to 63 when they are cut to fewer bits, and both ends.
var outside = []int{
	-1, -2, -62, -63, -64, -65, -128, -256, -1 << 31, -1<<31 - 1, -1 << 32, -1<<32 + 1, -1<<32 + 63,
	64, 65, 66, 127, 128, 191, 255, 256, 257, 1<<16 + 5, 1 << 31, 1 << 32, 1<<32 + 1, 1<<32 + 63, 1<<62 + 7,
	math.MinInt, math.MinInt + 1, math.MinInt + 63, math.MaxInt - 63, math.MaxInt - 1, math.MaxInt,
}

// asked are all numbers that may be in a set, and those of outside.
func asked() []int {
	var l []int
	for i := range 64 {
		l = append(l, i)
	}
	return append(l, outside...)
}

// power is 2^i, by doubling.
func power(i int) uint64 {
	p := uint64(1)
	for range i {
		p += p
	}
	return p
}

// in tells whether i is in s, by the quotient of s by 2^i.
func in(s uint64, i int) bool {
	return 0 <= i && i <= 63 && s/power(i)%2 == 1
}

// members are the numbers in s, rising.
func members(s uint64) []int {
	var l []int
	for i := range 64 {
		if in(s, i) {
			l = append(l, i)
		}
	}
	return l
}

// once are the numbers of l that may be in a set, rising, each once.
func once(l []int) []int {
	var want []int
	for i := range 64 {
		if slices.Contains(l, i) {
			want = append(want, i)
		}
	}
	return want
}

// together is the sum of the powers of numbers that differ.
func together(l []int) uint64 {
	s := uint64(0)
	for _, i := range l {
		s += power(i)
	}
	return s
}

// row is n numbers without a short beat, from below 0 to above 63.
func row(n int, seed uint64) []int {
	l := make([]int, n)
	x := seed
	for i := range l {
		x = x*6364136223846793005 + 1442695040888963407
		l[i] = int(x>>33%100) - 18
	}
	return l
}

// sets are the empty one, the full one, each number by itself, all but one, each pair, all up to one, all from one on, and some of no shape.
func sets() []uint64 {
	all := []uint64{0, math.MaxUint64, 0x5555555555555555, 0xAAAAAAAAAAAAAAAA, 0x00000000FFFFFFFF, 0xFFFFFFFF00000000, 0x8000000000000001}
	for i := range 64 {
		one := power(i)
		all = append(all, one, math.MaxUint64-one, one-1, math.MaxUint64-(one-1))
		for j := range i {
			all = append(all, one+power(j))
		}
	}
	x := uint64(1)
	for range 200 {
		x = x*6364136223846793005 + 1442695040888963407
		all = append(all, x)
	}
	return all
}

func holdOf(t *testing.T, l []int, want uint64) {
	t.Helper()
	if got := set.Of(l...); got != want {
		t.Errorf("Of of %d numbers = %#x, want %#x", len(l), got, want)
	}
}

func holdHas(t *testing.T, s uint64, i int, want bool) {
	t.Helper()
	if got := set.Has(s, i); got != want {
		t.Errorf("Has(%#x, %d) = %v", s, i, got)
	}
}

func holdWith(t *testing.T, s uint64, i int, want uint64) {
	t.Helper()
	if got := set.With(s, i); got != want {
		t.Errorf("With(%#x, %d) = %#x, want %#x", s, i, got, want)
	}
}

func holdWithout(t *testing.T, s uint64, i int, want uint64) {
	t.Helper()
	if got := set.Without(s, i); got != want {
		t.Errorf("Without(%#x, %d) = %#x, want %#x", s, i, got, want)
	}
}

func holdCount(t *testing.T, s uint64, want int) {
	t.Helper()
	if got := set.Count(s); got != want {
		t.Errorf("Count(%#x) = %d, want %d", s, got, want)
	}
}

func holdFirst(t *testing.T, s uint64, want int, wantOK bool) {
	t.Helper()
	if got, ok := set.First(s); got != want || ok != wantOK {
		t.Errorf("First(%#x) = %d, %v, want %d, %v", s, got, ok, want, wantOK)
	}
}

func holdList(t *testing.T, s uint64, want []int) {
	t.Helper()
	if got := set.List(s); !slices.Equal(got, want) {
		t.Errorf("List(%#x) = %v, want %v", s, got, want)
	}
}

// P4.1: Of, of ordinary numbers, at the edges, of numbers that come again, in any order, and of those that are in no set.
func TestOf(t *testing.T) {
	cases := []struct {
		l    []int
		want uint64
	}{
		{[]int{3, 1}, 10},
		{[]int{1, 3}, 10},
		{[]int{0}, 1},
		{[]int{63}, 1 << 63},
		{[]int{0, 63}, 1<<63 + 1},
		{[]int{31, 32, 33}, 7 << 31},
		{[]int{5, 5}, 32},
		{[]int{5, 2, 5, 2, 5}, 36},
		{[]int{63, 63, 0, 0, 63}, 1<<63 + 1},
		{[]int{-1}, 0},
		{[]int{64}, 0},
		{[]int{math.MinInt, math.MaxInt}, 0},
		{[]int{-1, 0, 64, 63}, 1<<63 + 1},
		{[]int{64, 2, -3, 2, 200}, 4},
		{outside, 0},
		{append(slices.Clone(outside), 7), 128},
		{append([]int{7}, outside...), 128},
		{asked(), math.MaxUint64},
	}
	for _, c := range cases {
		holdOf(t, c.l, c.want)
	}
}

// P4.1: Of takes its numbers one by one; of none, of a nil list and of an empty one it is the empty set.
func TestOfNone(t *testing.T) {
	if s := set.Of(); s != 0 {
		t.Errorf("Of() = %#x", s)
	}
	if s := set.Of(3, 1); s != 10 {
		t.Errorf("Of(3, 1) = %#x", s)
	}
	holdOf(t, nil, 0)
	holdOf(t, []int{}, 0)
	holdOf(t, []int{1, 2}[:0], 0)
}

// P4.1: each number by itself has a bit of its own, that of 2 to its power; the others have none.
func TestOfOne(t *testing.T) {
	for i := range 64 {
		holdOf(t, []int{i}, power(i))
		holdOf(t, []int{i, i}, power(i))
	}
	for _, i := range outside {
		holdOf(t, []int{i}, 0)
		holdOf(t, []int{i, i}, 0)
	}
}

// P4.1: all pairs, in both orders.
func TestOfTwo(t *testing.T) {
	for i := range 64 {
		for j := range i {
			holdOf(t, []int{i, j}, power(i)+power(j))
			holdOf(t, []int{j, i}, power(i)+power(j))
		}
	}
}

// P4.1: many numbers, of all kinds; each place of a long list counts.
func TestOfMany(t *testing.T) {
	for n := range 200 {
		l := row(n, uint64(n))
		holdOf(t, l, together(once(l)))
	}
	l := row(1<<20, 5)
	holdOf(t, l, math.MaxUint64)
	long := make([]int, 1<<20)
	for _, at := range []int{0, 1, 63, 64, 255, 256, 1<<16 - 1, 1 << 16, 1<<20 - 1} {
		long[at] = 63
		holdOf(t, long, 1<<63+1)
		long[at] = 0
	}
	holdOf(t, long, 1)
}

// P4.1: Has, of every number that may be in a set, and of those that may not.
func TestHas(t *testing.T) {
	for _, s := range sets() {
		for _, i := range asked() {
			holdHas(t, s, i, in(s, i))
		}
	}
	holdHas(t, 10, 1, true)
	holdHas(t, 10, 2, false)
	holdHas(t, 10, 3, true)
	holdHas(t, 1<<63, 63, true)
	holdHas(t, 1<<63, -1, false)
	holdHas(t, 1, 64, false)
}

// P4.1: With, of what is in a set and of what is not; with a number that is in no set it is as it was.
func TestWith(t *testing.T) {
	for _, s := range sets() {
		for _, i := range asked() {
			want := s
			if 0 <= i && i <= 63 && !in(s, i) {
				want = s + power(i)
			}
			holdWith(t, s, i, want)
		}
	}
	holdWith(t, 0, 0, 1)
	holdWith(t, 0, 63, 1<<63)
	holdWith(t, 10, 3, 10)
	holdWith(t, 10, 0, 11)
	holdWith(t, 10, -1, 10)
	holdWith(t, 10, 64, 10)
}

// P4.1: Without, of what is in a set and of what is not; without a number that is in no set it is as it was.
func TestWithout(t *testing.T) {
	for _, s := range sets() {
		for _, i := range asked() {
			want := s
			if in(s, i) {
				want = s - power(i)
			}
			holdWithout(t, s, i, want)
		}
	}
	holdWithout(t, 1, 0, 0)
	holdWithout(t, math.MaxUint64, 63, 1<<63-1)
	holdWithout(t, 10, 0, 10)
	holdWithout(t, 10, 3, 2)
	holdWithout(t, 10, -1, 10)
	holdWithout(t, 10, 64, 10)
}

// P4.1: what With puts in, Has tells and Without takes out again, and of no other number anything changes.
func TestInAndOut(t *testing.T) {
	for _, s := range sets() {
		for i := range 64 {
			with, without := set.With(s, i), set.Without(s, i)
			holdHas(t, with, i, true)
			holdHas(t, without, i, false)
			holdWithout(t, with, i, without)
			holdWith(t, without, i, with)
			holdCount(t, with, set.Count(without)+1)
		}
	}
}

// P4.1: Count, from none to all.
func TestCount(t *testing.T) {
	for _, s := range sets() {
		holdCount(t, s, len(members(s)))
	}
	holdCount(t, 0, 0)
	holdCount(t, 10, 2)
	holdCount(t, 1, 1)
	holdCount(t, 1<<63, 1)
	holdCount(t, math.MaxUint64, 64)
	holdCount(t, math.MaxUint64-1, 63)
}

// P4.1: First is the least, whatever stands behind it; 0 that is in a set is told apart from none.
func TestFirst(t *testing.T) {
	for _, s := range sets() {
		if s != 0 {
			holdFirst(t, s, members(s)[0], true)
		}
	}
	for i := range 64 {
		holdFirst(t, power(i), i, true)
		holdFirst(t, math.MaxUint64-(power(i)-1), i, true)
	}
	holdFirst(t, 10, 1, true)
	holdFirst(t, 1, 0, true)
	holdFirst(t, 0, 0, false)
	holdFirst(t, set.Of(outside...), 0, false)
}

// P4.1: List is all, rising; of the empty set nothing.
func TestList(t *testing.T) {
	for _, s := range sets() {
		holdList(t, s, members(s))
	}
	holdList(t, 0, nil)
	holdList(t, 0, []int{})
	holdList(t, 10, []int{1, 3})
	holdList(t, 1, []int{0})
	holdList(t, 1<<63, []int{63})
	holdList(t, 1<<63+1, []int{0, 63})
	holdList(t, math.MaxUint64, asked()[:64])
}

// P4.1 and P2: the list that is handed in stays as it was, with what stands about it, and what becomes of it later does not count.
func TestOfMemory(t *testing.T) {
	for _, part := range [][]int{{9, 3, 9, 0, 63}, {-1, 64, 5, -1}, {math.MaxInt}, {}} {
		whole := append([]int{40, 41}, part...)
		whole = append(whole, 42, 43)
		kept := slices.Clone(whole)
		s := set.Of(whole[2 : 2+len(part)]...)
		if !slices.Equal(whole, kept) {
			t.Errorf("%v was handed in, and is %v", kept, whole)
		}
		for i := range whole {
			whole[i] = 17
		}
		holdList(t, s, once(part))
		holdOf(t, kept[2:2+len(part)], s)
	}
}

// P4.1 and P2: a list that is answered is apart from every other one, to its room's end, and from what is answered later.
func TestListMemory(t *testing.T) {
	for _, s := range sets() {
		want := members(s)
		first, second := set.List(s), set.List(s)
		for i := range second {
			second[i] = -7
		}
		_ = append(second[:0], make([]int, cap(second))...)
		if !slices.Equal(first, want) {
			t.Errorf("of %#x: %v, want %v", s, first, want)
		}
		_ = append(first[:0], make([]int, cap(first))...)
		holdList(t, s, want)
	}
}

// P4.1 and P3: an answer hangs on nothing that was asked ahead; each going through a set begins anew.
func TestNothingKept(t *testing.T) {
	for range 3 {
		holdFirst(t, 1<<40+1<<9, 9, true)
		holdOf(t, []int{1}, 2)
		holdList(t, 1<<40+1<<9, []int{9, 40})
		holdFirst(t, 0, 0, false)
		holdList(t, 2, []int{1})
		holdCount(t, 0, 0)
		holdOf(t, nil, 0)
		holdList(t, 0, nil)
	}
}

// P4.2: List of Of is the numbers, rising, each once, however they stand; those that are in no set are left out.
func TestListOfOf(t *testing.T) {
	lists := [][]int{
		nil, {}, {3, 1}, {0}, {63}, {63, 0}, {5, 5, 5}, {2, 1, 2, 1, 0}, {-1, 64}, {64, 63, -1, 0},
		outside, asked(), append(asked(), asked()...), append(slices.Clone(outside), 63, 0, 63),
	}
	for n := range 300 {
		lists = append(lists, row(n, uint64(n)+1000))
	}
	for _, l := range lists {
		holdList(t, set.Of(l...), once(l))
		back := slices.Clone(l)
		slices.Reverse(back)
		holdList(t, set.Of(back...), once(l))
	}
}

// P4.2: every set comes back from its list, the list turned round and doubled too.
func TestOfOfList(t *testing.T) {
	for _, s := range sets() {
		l := set.List(s)
		holdOf(t, l, s)
		holdCount(t, s, len(l))
		slices.Reverse(l)
		holdOf(t, l, s)
		holdOf(t, append(l, l...), s)
	}
}
