package pick_test

import (
	"bytes"
	"slices"
	"testing"

	"warrener/api"
	"warrener/pick"
)

// got is what Get answers.
type got struct {
	l   []int
	at  int
	err api.Errno
}

// holdGet fails if Get does not answer that.
func holdGet(t *testing.T, b []byte, want got) {
	t.Helper()
	l, at, err := pick.Get(b)
	if !slices.Equal(l, want.l) || at != want.at || err != want.err {
		t.Fatalf("Get of %d octets, %v .. = %v, %d, %d, want %v", len(b), b[:min(len(b), 20)], l, at, err, want)
	}
}

// holdWrong fails if Get does not answer nothing, that place, and that error.
func holdWrong(t *testing.T, b []byte, at int, err api.Errno) {
	t.Helper()
	holdGet(t, b, got{nil, at, err})
}

// holdPut fails if Put does not answer that.
func holdPut(t *testing.T, l []int, want []byte, wantErr api.Errno) {
	t.Helper()
	b, err := pick.Put(l)
	if !bytes.Equal(b, want) || err != wantErr {
		t.Fatalf("Put of %d picks, %v .. = %v, %d, want %v, %d", len(l), l[:min(len(l), 20)], b, err, want, wantErr)
	}
}

// octets are those of a schedule that may be.
func octets(l []int) []byte {
	b := []byte{byte(len(l) / 256), byte(len(l) % 256)}
	for _, a := range l {
		b = append(b, byte(a))
	}
	return b
}

// putWants is what the page says.
func putWants(l []int) ([]byte, api.Errno) {
	switch {
	case len(l) > 4096:
		return nil, api.ErrMany
	case slices.ContainsFunc(l, func(a int) bool { return a < 0 || a > 7 }):
		return nil, api.ErrRange
	}
	return octets(l), api.OK
}

// getWants is what the page says of octets, one behind the other.
func getWants(b []byte) got {
	if len(b) < 2 {
		return got{nil, len(b), api.ErrForm}
	}
	many := int(b[0])*256 + int(b[1])
	if many > 4096 {
		return got{nil, 0, api.ErrMany}
	}
	var l []int
	for i := 2; i < 2+many; i++ {
		if i >= len(b) {
			return got{nil, i, api.ErrForm}
		}
		if b[i] > 7 {
			return got{nil, i, api.ErrRange}
		}
		l = append(l, int(b[i]))
	}
	return got{l, 2 + many, api.OK}
}

// schedules are some that may be.
func schedules() [][]int {
	c := chance(3)
	l := [][]int{nil, {}, {0}, {7}, {0, 0, 1, 0}, {0, 1, 2, 3, 4, 5, 6, 7}, {7, 7, 7, 7}}
	for _, length := range []int{2, 3, 10, 100, 254, 255, 256, 257, 258, 511, 512, 513, 4094, 4095, 4096} {
		l = append(l, c.picks(length, 8))
	}
	return l
}

// noAgents are picks that may not be: such that may when they are cut to fewer bits among them.
func noAgents() []int {
	return append([]int{8, 9, 10, 15, 16, 48, 127, 1<<8 + 3, 1<<16 + 7, 1<<32 + 7, 1<<40 + 1, -7, -1<<8 + 2, -1<<32 + 5, -1<<62 + 4}, far...)
}

// P30.2: Put, written out.
func TestPutWrittenOut(t *testing.T) {
	for _, x := range []struct {
		l    []int
		want []byte
	}{
		{nil, []byte{0, 0}}, {[]int{}, []byte{0, 0}}, {[]int{0}, []byte{0, 1, 0}}, {[]int{7}, []byte{0, 1, 7}}, {[]int{3, 5}, []byte{0, 2, 3, 5}},
		{[]int{0, 0, 1, 0}, []byte{0, 4, 0, 0, 1, 0}}, {[]int{7, 6, 5, 4, 3, 2, 1, 0}, []byte{0, 8, 7, 6, 5, 4, 3, 2, 1, 0}},
	} {
		holdPut(t, x.l, x.want, api.OK)
		holdGet(t, x.want, got{x.l, len(x.want), api.OK})
	}
}

// P30.2: how many there are has its highest octet first; as many as MaxPicks there may be, one more not.
func TestPutHowMany(t *testing.T) {
	for _, x := range []struct {
		length    int
		high, low byte
	}{{0, 0, 0}, {1, 0, 1}, {255, 0, 255}, {256, 1, 0}, {257, 1, 1}, {512, 2, 0}, {1000, 3, 232}, {4095, 15, 255}, {4096, 16, 0}} {
		l := make([]int, x.length)
		holdPut(t, l, append([]byte{x.high, x.low}, make([]byte, x.length)...), api.OK)
		for i := range l {
			l[i] = 7 - i%8
		}
		holdPut(t, l, octets(l), api.OK)
	}
	for _, length := range []int{4097, 4098, 8192, 65535, 65536, 65537, 69632, 1 << 20} {
		holdPut(t, make([]int, length), nil, api.ErrMany)
	}
}

// P30.2: a pick that may not be, at each place; and more picks than there may be, among which such a one is.
func TestPutNoAgents(t *testing.T) {
	for _, length := range []int{1, 2, 3, 9, 4096} {
		for _, i := range []int{0, 1, length / 2, length - 2, length - 1} {
			if i < 0 || i >= length {
				continue
			}
			for _, a := range noAgents() {
				l := make([]int, length)
				l[i] = a
				holdPut(t, l, nil, api.ErrRange)
			}
			for a := range 8 {
				l := make([]int, length)
				l[i] = a
				holdPut(t, l, octets(l), api.OK)
			}
		}
	}
	for _, a := range noAgents() {
		holdPut(t, []int{a, a, a}, nil, api.ErrRange)
		for _, i := range []int{0, 1, 4095, 4096} {
			l := make([]int, 4097)
			l[i] = a
			holdPut(t, l, nil, api.ErrMany)
		}
	}
}

// P30.2: each pick from below 0 to above all octets.
func TestPutEachPick(t *testing.T) {
	for a := -300; a <= 600; a++ {
		want, err := putWants([]int{1, a})
		holdPut(t, []int{1, a}, want, err)
		want, err = putWants([]int{a, 1, 2})
		holdPut(t, []int{a, 1, 2}, want, err)
	}
}

// P30.2: Get of what Put answers, alone and with other octets behind it, be it as many as one will.
func TestThereAndBackByOctets(t *testing.T) {
	for _, l := range schedules() {
		b, err := pick.Put(l)
		if err != api.OK || !bytes.Equal(b, octets(l)) {
			t.Fatalf("Put of %d picks = %d octets, %d", len(l), len(b), err)
		}
		want := got{l, 2 + len(l), api.OK}
		holdGet(t, b, want)
		for _, more := range []int{1, 2, 3, 255, 256, 4095, 4096, 4097, 4098, 4099, 1 << 16} {
			for _, n := range []byte{0, 1, 7, 8, 255} {
				holdGet(t, append(slices.Clone(b), bytes.Repeat([]byte{n}, more)...), want)
			}
		}
		holdGet(t, append(slices.Clone(b), b...), want)
	}
	holdGet(t, append([]byte{0, 2, 3, 4}, make([]byte, 1<<24)...), got{[]int{3, 4}, 4, api.OK})
}

// P30.2: of every front of what Put answers an octet lacks, at how many there are; what stands in the room behind the end is none of them.
func TestFronts(t *testing.T) {
	holdWrong(t, nil, 0, api.ErrForm)
	holdWrong(t, []byte{}, 0, api.ErrForm)
	for _, l := range schedules() {
		b := octets(l)
		for n := range len(b) {
			if n > 300 && n < len(b)-3 && n%97 != 0 {
				continue
			}
			holdWrong(t, b[:n:n], n, api.ErrForm)
			holdWrong(t, b[:n], n, api.ErrForm)
		}
	}
	for n := range 256 {
		holdWrong(t, []byte{byte(n)}, 1, api.ErrForm)
	}
}

// P30.2: each number of two octets, with nothing behind it, with one pick, and with enough of them: of one above MaxPicks nothing behind it is asked.
func TestGetHowMany(t *testing.T) {
	for n := range 1 << 16 {
		b := []byte{byte(n >> 8), byte(n)}
		holdGet(t, b, getWants(b))
		holdGet(t, append(b, 5), getWants(append(b, 5)))
		holdGet(t, append(b, 8), getWants(append(b, 8)))
	}
	enough := make([]byte, 1<<16)
	for _, n := range []int{4097, 4098, 4352, 8191, 8192, 8193, 32767, 32768, 32769, 61440, 65534, 65535} {
		for _, a := range []byte{0, 7, 8, 255} {
			b := append([]byte{byte(n >> 8), byte(n), a}, enough...)
			holdWrong(t, b, 0, api.ErrMany)
			holdWrong(t, b[:2], 0, api.ErrMany)
			holdWrong(t, b[:3], 0, api.ErrMany)
			holdWrong(t, b[:2+n], 0, api.ErrMany)
		}
	}
	for _, n := range []int{4094, 4095, 4096} {
		b := append([]byte{byte(n >> 8), byte(n)}, enough...)
		holdGet(t, b, got{make([]int, n), 2 + n, api.OK})
		holdGet(t, b[:2+n], got{make([]int, n), 2 + n, api.OK})
		holdWrong(t, b[:1+n], 1+n, api.ErrForm)
	}
}

// P30.2: each octet at the place of a pick: the first one that is above 7 counts, and so does it ahead of an octet that lacks behind it.
func TestGetEachPick(t *testing.T) {
	for n := range 256 {
		for i := 2; i < 7; i++ {
			b := []byte{0, 5, 1, 2, 3, 4, 5}
			b[i] = byte(n)
			for end := range 8 {
				holdGet(t, b[:end], getWants(b[:end]))
			}
			holdGet(t, append(b, 9, 255), getWants(b))
		}
	}
	holdWrong(t, []byte{0, 3, 8, 9, 10}, 2, api.ErrRange)
	holdWrong(t, []byte{0, 3, 0, 9, 10}, 3, api.ErrRange)
	holdWrong(t, []byte{0, 3, 0, 0, 255}, 4, api.ErrRange)
	holdWrong(t, []byte{0, 3, 0, 8}, 3, api.ErrRange)
	holdWrong(t, []byte{0, 3, 8}, 2, api.ErrRange)
	holdWrong(t, []byte{0, 3, 0, 0}, 4, api.ErrForm)
	holdWrong(t, []byte{0, 3, 128, 0, 0}, 2, api.ErrRange)
	holdGet(t, []byte{0, 3, 7, 0, 7, 8}, got{[]int{7, 0, 7}, 5, api.OK})
	holdGet(t, []byte{0, 0, 8}, got{nil, 2, api.OK})
	for _, i := range []int{2, 3, 257, 258, 259, 4096, 4097} {
		b := octets(make([]int, 4096))
		b[i] = 8
		holdWrong(t, b, i, api.ErrRange)
		holdWrong(t, b[:i+1], i, api.ErrRange)
		holdWrong(t, b[:i], i, api.ErrForm)
		b[i] = 7
		want := make([]int, 4096)
		want[i-2] = 7
		holdGet(t, b, got{want, 4098, api.OK})
	}
}

// P30.2: octets by chance, and picks by chance, by the page's words.
func TestByChance(t *testing.T) {
	c := chance(4)
	for range 30000 {
		b := octets(c.picks(c.next(12), 8))
		for range c.next(3) {
			b[c.next(len(b))] = byte(c.next(256) >> c.next(8))
		}
		b = b[:len(b)-c.next(2)*c.next(len(b))]
		holdGet(t, b, getWants(b))
		l := c.picks(c.next(12), 8)
		if len(l) > 0 && c.next(2) == 0 {
			l[c.next(len(l))] = c.number(8)
		}
		want, err := putWants(l)
		holdPut(t, l, want, err)
	}
}
