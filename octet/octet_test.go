package octet_test

import (
	"bytes"
	"encoding/binary"
	"math"
	"testing"

	"warrener/octet"
)

// otherWidths are those of which there is no number.
var otherWidths = []int{0, -1, 9, 10, 16, 64, -8, math.MinInt, math.MaxInt, 1<<32 + 1, -1<<32 + 1}

// numbers are ordinary ones, and those about the bounds of each width, with and without a sign.
func numbers() []int64 {
	l := []int64{0, 1, -1, 2, -2, 7, 258, -258, 65534, 0x0102030405060708, -0x0102030405060708, math.MinInt64, math.MinInt64 + 1, math.MaxInt64 - 1, math.MaxInt64}
	for w := 1; w < 8; w++ {
		half, whole := int64(1)<<(8*w-1), int64(1)<<(8*w)
		l = append(l, half-1, half, half+1, -half+1, -half, -half-1, whole-1, whole, whole+1, -whole+1, -whole, -whole-1)
	}
	return l
}

// octetsOf takes the lowest octets of the library's own eight.
func octetsOf(n int64, w int) []byte {
	return binary.BigEndian.AppendUint64(nil, uint64(n))[8-w:]
}

// unsigned is what w octets of n are as a number from 0 on.
func unsigned(n int64, w int) int64 {
	if w == 8 {
		return n
	}
	return n & (1<<(8*w) - 1)
}

// signed is what w octets of n are as a number with a sign.
func signed(n int64, w int) int64 {
	if w == 8 {
		return n
	}
	whole := int64(1) << (8 * w)
	m := unsigned(n, w)
	if m >= whole/2 {
		return m - whole
	}
	return m
}

func holdOctets(t *testing.T, got, want []byte) {
	t.Helper()
	if !bytes.Equal(got, want) {
		t.Errorf("octets %v, want %v", got, want)
	}
}

func holdNum(t *testing.T, r *octet.Reader, w int, want int64, wantOK bool) {
	t.Helper()
	if got, ok := r.Num(w); got != want || ok != wantOK {
		t.Errorf("Num(%d) = %d, %v, want %d, %v", w, got, ok, want, wantOK)
	}
}

func holdSigned(t *testing.T, r *octet.Reader, w int, want int64, wantOK bool) {
	t.Helper()
	if got, ok := r.Signed(w); got != want || ok != wantOK {
		t.Errorf("Signed(%d) = %d, %v, want %d, %v", w, got, ok, want, wantOK)
	}
}

func holdReader(t *testing.T, r *octet.Reader, at, left int, bad bool) {
	t.Helper()
	if r.At() != at || r.Left() != left || r.Bad() != bad {
		t.Errorf("at %d, left %d, bad %v, want %d, %d, %v", r.At(), r.Left(), r.Bad(), at, left, bad)
	}
}

// P2.1: the highest octet first, below 0 the two's complement, of each width.
func TestPut(t *testing.T) {
	cases := []struct {
		b    []byte
		n    int64
		w    int
		want []byte
	}{
		{nil, 258, 3, []byte{0, 1, 2}},
		{nil, -2, 2, []byte{255, 254}},
		{nil, 0, 1, []byte{0}},
		{[]byte{}, 7, 1, []byte{7}},
		{[]byte{9, 8}, 7, 1, []byte{9, 8, 7}},
		{[]byte{9}, -1, 4, []byte{9, 255, 255, 255, 255}},
		{nil, 0x0102030405060708, 8, []byte{1, 2, 3, 4, 5, 6, 7, 8}},
		{nil, math.MinInt64, 8, []byte{128, 0, 0, 0, 0, 0, 0, 0}},
		{nil, math.MaxInt64, 8, []byte{127, 255, 255, 255, 255, 255, 255, 255}},
		{nil, 127, 1, []byte{127}},
		{nil, -128, 1, []byte{128}},
	}
	for _, c := range cases {
		holdOctets(t, octet.Put(c.b, c.n, c.w), c.want)
	}
}

// P2.1: of a number that has no room, the lowest octets are put.
func TestPutNoRoom(t *testing.T) {
	holdOctets(t, octet.Put(nil, 256, 1), []byte{0})
	holdOctets(t, octet.Put(nil, -257, 1), []byte{255})
	holdOctets(t, octet.Put(nil, 0x0102030405060708, 1), []byte{8})
	holdOctets(t, octet.Put([]byte{1}, 0x0102030405060708, 5), []byte{1, 4, 5, 6, 7, 8})
	holdOctets(t, octet.Put(nil, math.MinInt64, 7), []byte{0, 0, 0, 0, 0, 0, 0})
	holdOctets(t, octet.Put(nil, math.MaxInt64, 2), []byte{255, 255})
}

// P2.1: every width of every number, against the library's own octets.
func TestPutAll(t *testing.T) {
	front := []byte{3, 1, 4}
	for _, n := range numbers() {
		for w := 1; w <= 8; w++ {
			holdOctets(t, octet.Put(nil, n, w), octetsOf(n, w))
			holdOctets(t, octet.Put(front, n, w), append([]byte{3, 1, 4}, octetsOf(n, w)...))
		}
	}
}

// P2.1: of another width b alone comes back.
func TestPutOtherWidths(t *testing.T) {
	for _, w := range otherWidths {
		holdOctets(t, octet.Put([]byte{1, 2}, -1, w), []byte{1, 2})
		holdOctets(t, octet.Put([]byte{}, -1, w), nil)
		holdOctets(t, octet.Put(nil, -1, w), nil)
	}
}

// P2.1 and P2: what was handed in stays as it was, and so does the room behind it; the answer shares nothing with it.
func TestPutMemory(t *testing.T) {
	for _, w := range append([]int{1, 3, 8}, otherWidths...) {
		whole := []byte{1, 2, 50, 51, 52, 53, 54, 55, 56, 57, 58, 59}
		want := bytes.Clone(whole)
		first := octet.Put(whole[:2], -1, w)
		kept := bytes.Clone(first)
		second := octet.Put(whole[:2], 0, w)
		holdOctets(t, whole, want)
		holdOctets(t, first, kept)
		for i := range second {
			second[i] = 77
		}
		_ = append(second[:0], make([]byte, cap(second))...)
		holdOctets(t, whole, want)
		holdOctets(t, first, kept)
		whole[0], whole[1] = 60, 61
		holdOctets(t, first, kept)
	}
}

// P2.2: Num, at ordinary octets, at both ends of the widths, and at the highest bit.
func TestNum(t *testing.T) {
	cases := []struct {
		b    []byte
		w    int
		want int64
	}{
		{[]byte{0}, 1, 0}, {[]byte{7}, 1, 7}, {[]byte{127}, 1, 127}, {[]byte{128}, 1, 128}, {[]byte{255}, 1, 255},
		{[]byte{0, 1, 2}, 3, 258}, {[]byte{255, 254}, 2, 65534}, {[]byte{128, 0, 0, 0}, 4, 1 << 31},
		{[]byte{128, 0, 0, 0, 0, 0, 0}, 7, 1 << 55}, {[]byte{255, 255, 255, 255, 255, 255, 255}, 7, 1<<56 - 1},
		{[]byte{1, 2, 3, 4, 5, 6, 7, 8}, 8, 0x0102030405060708},
		{[]byte{127, 255, 255, 255, 255, 255, 255, 255}, 8, math.MaxInt64},
		{[]byte{128, 0, 0, 0, 0, 0, 0, 0}, 8, math.MinInt64},
		{[]byte{255, 255, 255, 255, 255, 255, 255, 255}, 8, -1},
	}
	for _, c := range cases {
		r := octet.New(c.b)
		holdReader(t, r, 0, c.w, false)
		holdNum(t, r, c.w, c.want, true)
		holdReader(t, r, c.w, 0, false)
	}
}

// P2.2: Signed, at ordinary octets, at both ends of the widths, and at the highest bit.
func TestSigned(t *testing.T) {
	cases := []struct {
		b    []byte
		w    int
		want int64
	}{
		{[]byte{0}, 1, 0}, {[]byte{7}, 1, 7}, {[]byte{127}, 1, 127}, {[]byte{128}, 1, -128}, {[]byte{255}, 1, -1},
		{[]byte{0, 1, 2}, 3, 258}, {[]byte{255, 254}, 2, -2}, {[]byte{127, 255, 255, 255}, 4, 1<<31 - 1}, {[]byte{128, 0, 0, 0}, 4, -1 << 31},
		{[]byte{0, 255}, 2, 255}, {[]byte{128, 0, 0, 0, 0, 0, 0}, 7, -1 << 55}, {[]byte{127, 255, 255, 255, 255, 255, 255}, 7, 1<<55 - 1},
		{[]byte{1, 2, 3, 4, 5, 6, 7, 8}, 8, 0x0102030405060708},
		{[]byte{127, 255, 255, 255, 255, 255, 255, 255}, 8, math.MaxInt64},
		{[]byte{128, 0, 0, 0, 0, 0, 0, 0}, 8, math.MinInt64},
		{[]byte{255, 255, 255, 255, 255, 255, 255, 255}, 8, -1},
	}
	for _, c := range cases {
		r := octet.New(c.b)
		holdReader(t, r, 0, c.w, false)
		holdSigned(t, r, c.w, c.want, true)
		holdReader(t, r, c.w, 0, false)
	}
}

// P2.2: octets are taken from the front on, each once, by both calls.
func TestReadOn(t *testing.T) {
	r := octet.New([]byte{255, 255, 1, 2, 128, 0, 9, 200})
	holdReader(t, r, 0, 8, false)
	holdSigned(t, r, 1, -1, true)
	holdReader(t, r, 1, 7, false)
	holdNum(t, r, 1, 255, true)
	holdReader(t, r, 2, 6, false)
	holdNum(t, r, 2, 258, true)
	holdReader(t, r, 4, 4, false)
	holdSigned(t, r, 3, -1<<23+9, true)
	holdReader(t, r, 7, 1, false)
	holdNum(t, r, 1, 200, true)
	holdReader(t, r, 8, 0, false)
}

// P2.2: just as many octets as are asked for are enough; with one too few the reader is bad, and what is left stays.
func TestJustEnough(t *testing.T) {
	for w := 1; w <= 8; w++ {
		b := bytes.Repeat([]byte{1}, w)
		want, _ := octet.New(b).Num(w)
		holdNum(t, octet.New(b), w, want, true)
		holdSigned(t, octet.New(b), w, want, true)
		for ahead := range 3 {
			row := append(make([]byte, ahead), b[1:]...)
			one, other := octet.New(row), octet.New(row)
			for range ahead {
				holdNum(t, one, 1, 0, true)
				holdNum(t, other, 1, 0, true)
			}
			holdNum(t, one, w, 0, false)
			holdReader(t, one, ahead, w-1, true)
			holdSigned(t, other, w, 0, false)
			holdReader(t, other, ahead, w-1, true)
		}
	}
}

// P2.2: a width that is not from 1 to 8 makes a reader bad, whatever is left.
func TestReadOtherWidths(t *testing.T) {
	for _, w := range otherWidths {
		for _, b := range [][]byte{nil, {1}, bytes.Repeat([]byte{1}, 100)} {
			r := octet.New(b)
			holdNum(t, r, w, 0, false)
			holdReader(t, r, 0, len(b), true)
			r = octet.New(b)
			holdSigned(t, r, w, 0, false)
			holdReader(t, r, 0, len(b), true)
		}
	}
}

// P2.2: what is bad stays so, for both calls, though there are octets enough.
func TestBadStays(t *testing.T) {
	spoil := []func(r *octet.Reader){
		func(r *octet.Reader) { r.Num(0) },
		func(r *octet.Reader) { r.Signed(9) },
		func(r *octet.Reader) { r.Num(8) },
		func(r *octet.Reader) { r.Signed(8) },
	}
	for _, f := range spoil {
		r := octet.New([]byte{5, 6, 7, 8})
		holdNum(t, r, 1, 5, true)
		f(r)
		for range 3 {
			holdReader(t, r, 1, 3, true)
			holdNum(t, r, 1, 0, false)
			holdSigned(t, r, 1, 0, false)
			holdNum(t, r, 3, 0, false)
			holdSigned(t, r, 0, 0, false)
		}
		holdReader(t, r, 1, 3, true)
	}
}

// P2.2: a reader of nothing is good till something is asked of it.
func TestReaderOfNothing(t *testing.T) {
	for _, b := range [][]byte{nil, {}} {
		r := octet.New(b)
		holdReader(t, r, 0, 0, false)
		holdNum(t, r, 1, 0, false)
		holdReader(t, r, 0, 0, true)
		r = octet.New(b)
		holdSigned(t, r, 1, 0, false)
		holdReader(t, r, 0, 0, true)
	}
}

// P2.2: nil, and a reader that New did not make, are bad and hold nothing.
func TestReaderOfNobody(t *testing.T) {
	for _, r := range []*octet.Reader{nil, {}, new(octet.Reader)} {
		holdReader(t, r, 0, 0, true)
		for _, w := range append([]int{1, 2, 8}, otherWidths...) {
			holdNum(t, r, w, 0, false)
			holdSigned(t, r, w, 0, false)
			holdReader(t, r, 0, 0, true)
		}
	}
}

// P2.2 and P2: reading changes nothing that was handed in, and a reader reads what was handed in, not what became of it.
func TestReaderMemory(t *testing.T) {
	whole := []byte{1, 2, 3, 4, 5, 6}
	r, other := octet.New(whole[:4]), octet.New(whole[:4])
	holdNum(t, r, 2, 258, true)
	holdNum(t, r, 3, 0, false)
	holdOctets(t, whole, []byte{1, 2, 3, 4, 5, 6})
	for i := range whole {
		whole[i] = 99
	}
	holdReader(t, other, 0, 4, false)
	holdNum(t, other, 4, 0x01020304, true)
	holdReader(t, other, 4, 0, false)
	holdSigned(t, other, 1, 0, false)
}

// P2.3: what was put is read with a sign, if it has room; of the rest, and without a sign, what its octets are.
func TestThereAndBack(t *testing.T) {
	for _, n := range numbers() {
		for w := 1; w <= 8; w++ {
			b := octet.Put(nil, n, w)
			half := int64(1) << (8*w - 1)
			if w == 8 || -half <= n && n < half {
				holdSigned(t, octet.New(b), w, n, true)
			}
			holdSigned(t, octet.New(b), w, signed(n, w), true)
			holdNum(t, octet.New(b), w, unsigned(n, w), true)
		}
	}
}

// P2.3: a row of numbers, put one behind the other, is read in their order.
func TestRowThereAndBack(t *testing.T) {
	var b []byte
	size := 0
	for i, n := range numbers() {
		b = octet.Put(b, n, i%8+1)
		size += i%8 + 1
	}
	r := octet.New(b)
	holdReader(t, r, 0, size, false)
	for i, n := range numbers() {
		holdSigned(t, r, i%8+1, signed(n, i%8+1), true)
	}
	holdReader(t, r, size, 0, false)
}

// P2.3: every octet, and every pair of them, with its sign.
func TestAllSmall(t *testing.T) {
	for n := int64(-1 << 7); n < 1<<7; n++ {
		holdSigned(t, octet.New(octet.Put(nil, n, 1)), 1, n, true)
	}
	for n := int64(-1 << 15); n < 1<<15; n++ {
		holdSigned(t, octet.New(octet.Put(nil, n, 2)), 2, n, true)
	}
}
