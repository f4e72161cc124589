package mix_test

import (
	"bytes"
	"math"
	"math/big"
	"testing"

	"warrener/mix"
)

// numbers are ordinary ones, those about the bits by which Mix shifts, and those about both ends, where products and sums go round.
var numbers = []uint64{
	0, 1, 2, 3, 7, 255, 256, 257, 1000003, 123456789,
	1<<28 - 1, 1 << 28, 1<<29 - 1, 1 << 29, 1<<29 + 1, 1<<30 - 1, 1 << 30,
	1<<31 - 1, 1 << 31, 1<<32 - 1, 1 << 32, 1<<32 + 1, 1<<33 - 1, 1 << 33,
	1<<35 - 1, 1 << 35, 1<<61 - 1, 1 << 61, 1 << 62,
	1<<63 - 1, 1 << 63, 1<<63 + 1, math.MaxUint64 - 1<<32, math.MaxUint64 - 1<<29, math.MaxUint64 - 2, math.MaxUint64 - 1, math.MaxUint64,
}

var seeds = []uint64{0, 1, 2, 42, 1<<29 - 1, 1 << 29, 1 << 32, 1<<63 - 1, 1 << 63, math.MaxUint64}

func whole(n uint64) *big.Int {
	return new(big.Int).SetUint64(n)
}

func power(n uint) *big.Int {
	return new(big.Int).Lsh(big.NewInt(1), n)
}

// round takes a whole number of any size modulo 2^64.
func round(n *big.Int) *big.Int {
	return n.Mod(n, power(64))
}

func decimal(t *testing.T, text string) *big.Int {
	t.Helper()
	n, ok := new(big.Int).SetString(text, 10)
	if !ok {
		t.Fatalf("%q is no number", text)
	}
	return n
}

// mixed is Mix by the page's words, step by step, in whole numbers of any size.
func mixed(t *testing.T, a, b uint64) uint64 {
	t.Helper()
	x := decimal(t, "11400714819323198485")
	x = round(x.Add(x.Mul(x, whole(a)), whole(b)))
	x.Xor(x, new(big.Int).Quo(x, power(32)))
	x = round(x.Mul(x, decimal(t, "13787848793156543929")))
	return x.Xor(x, new(big.Int).Quo(x, power(29))).Uint64()
}

// goneOn is a sum, gone on with octets: the last one is mixed into the sum of those ahead of it.
func goneOn(t *testing.T, sum uint64, b []byte) uint64 {
	t.Helper()
	if len(b) == 0 {
		return sum
	}
	last := len(b) - 1
	return mixed(t, goneOn(t, sum, b[:last]), uint64(b[last]))
}

// summed is Sum by the page's words.
func summed(t *testing.T, seed uint64, b []byte) uint64 {
	t.Helper()
	return goneOn(t, mixed(t, seed, uint64(len(b))), b)
}

// against is the number that takes an odd factor back: each round doubles how many of its low bits are right.
func against(factor uint64) uint64 {
	n := factor
	for range 6 {
		n *= 2 - factor*n
	}
	return n
}

// secondOf takes Mix back: the one b by which a gives that answer.
func secondOf(a, answer uint64) uint64 {
	x := answer ^ answer>>29 ^ answer>>58
	x *= against(13787848793156543929)
	x ^= x >> 32
	return x - 11400714819323198485*a
}

// allOctets are all 256, from 0 on.
func allOctets() []byte {
	b := make([]byte, 256)
	for i := range b {
		b[i] = byte(i)
	}
	return b
}

// row is a row of n octets without a short beat.
func row(n int) []byte {
	b := make([]byte, n)
	for i := range b {
		b[i] = byte(i * i % 251)
	}
	return b
}

func holdMix(t *testing.T, a, b, want uint64) {
	t.Helper()
	if got := mix.Mix(a, b); got != want {
		t.Errorf("Mix(%d, %d) = %d, want %d", a, b, got, want)
	}
}

func holdSum(t *testing.T, seed uint64, b []byte, want uint64) {
	t.Helper()
	if got := mix.Sum(seed, b); got != want {
		t.Errorf("Sum(%d, %d octets) = %d, want %d", seed, len(b), got, want)
	}
}

// holdApart asks that no two of the texts have one sum, and that each has its own by the page's words.
func holdApart(t *testing.T, texts [][]byte) {
	t.Helper()
	for _, seed := range seeds {
		whose := map[uint64]int{}
		for i, b := range texts {
			holdSum(t, seed, b, summed(t, seed, b))
			sum := mix.Sum(seed, b)
			if j, ok := whose[sum]; ok {
				t.Errorf("texts %d and %d have one sum %d with seed %d", j, i, sum, seed)
			}
			whose[sum] = i
		}
	}
}

// P3.1: Mix, at numbers that were reckoned elsewhere.
func TestMix(t *testing.T) {
	cases := []struct{ a, b, want uint64 }{
		{0, 0, 0},
		{0, 1, 13787848775058251473},
		{1, 0, 12258477377254659241},
		{1, 1, 16728535624058352232},
		{2, 3, 8269390391618045767},
		{3, 2, 17661231080807563322},
		{0, 1<<29 - 1, 16448365528822165527},
		{0, 1 << 29, 11789470213888861625},
		{0, 1<<29 + 1, 7130574966915056792},
		{0, 1<<32 - 1, 6740936778896631832},
		{0, 1 << 32, 15869890281631222921},
		{0, 1<<32 + 1, 2082041514361826760},
		{1 << 32, 0, 12122865860275529262},
		{1 << 29, 0, 13390284614306593175},
		{0, 1 << 63, 1041020757180913380},
		{1 << 63, 0, 1041020757180913380},
		{1 << 63, 1 << 63, 0},
		{0, math.MaxUint64, 16364702533577921080},
		{math.MaxUint64, 0, 1663893757289459571},
		{math.MaxUint64, math.MaxUint64, 6322789045309246529},
		{123456789, 987654321, 8403510792621838389},
	}
	for _, c := range cases {
		holdMix(t, c.a, c.b, c.want)
	}
}

// P3.1: Mix of every pair of ordinary numbers and of edges is what the page's words say, reckoned without going round by itself.
func TestMixByWords(t *testing.T) {
	for _, a := range numbers {
		for _, b := range numbers {
			holdMix(t, a, b, mixed(t, a, b))
		}
	}
}

// P3.1: every bit of either number counts.
func TestMixBits(t *testing.T) {
	for i := range 64 {
		one := uint64(1) << i
		holdMix(t, one, 0, mixed(t, one, 0))
		holdMix(t, 0, one, mixed(t, 0, one))
		holdMix(t, ^one, 5, mixed(t, ^one, 5))
		holdMix(t, 5, ^one, mixed(t, 5, ^one))
		holdMix(t, one, one, mixed(t, one, one))
	}
}

// P3.1: Sum, at numbers that were reckoned elsewhere.
func TestSum(t *testing.T) {
	cases := []struct {
		seed uint64
		b    []byte
		want uint64
	}{
		{0, nil, 0},
		{1, nil, 12258477377254659241},
		{math.MaxUint64, nil, 1663893757289459571},
		{0, []byte{0}, 16062321498646921510},
		{0, []byte{1}, 11403426234213537018},
		{7, []byte{'a'}, 14775214763825005420},
		{math.MaxUint64, []byte{255}, 14516592104885611580},
		{0, []byte("warrener"), 8602128811752241178},
		{5, []byte("warrener"), 7762755530097670535},
		{0, allOctets(), 12811817164533395738},
		{math.MaxUint64, allOctets(), 16276671448273052157},
		{1 << 63, make([]byte, 1000), 16883441486641439377},
		{3, row(70000), 12083236537382958572},
	}
	for _, c := range cases {
		holdSum(t, c.seed, c.b, c.want)
	}
}

// P3.1: the sum of no octets is the seed, mixed with none; nil and empty are one.
func TestSumOfNothing(t *testing.T) {
	for _, seed := range numbers {
		holdSum(t, seed, nil, mixed(t, seed, 0))
		holdSum(t, seed, []byte{}, mixed(t, seed, 0))
		holdSum(t, seed, row(5)[2:2], mixed(t, seed, 0))
	}
}

// P3.1: every single octet, with every seed: first that there is one, then which it is.
func TestSumOfOne(t *testing.T) {
	for _, seed := range seeds {
		for octet := range 256 {
			holdSum(t, seed, []byte{byte(octet)}, mixed(t, mixed(t, seed, 1), uint64(octet)))
		}
	}
}

// P3.1: rows of every length up to beyond an octet's bound, and about those of longer numbers, with several seeds.
func TestSumByWords(t *testing.T) {
	for n := range 300 {
		holdSum(t, uint64(n), row(n), summed(t, uint64(n), row(n)))
	}
	for _, seed := range seeds {
		holdSum(t, seed, allOctets(), summed(t, seed, allOctets()))
		holdSum(t, seed, make([]byte, 257), summed(t, seed, make([]byte, 257)))
	}
	for _, n := range []int{1<<16 - 1, 1 << 16, 1<<16 + 1, 100003} {
		holdSum(t, 9, row(n), summed(t, 9, row(n)))
	}
}

// P3.1: the octets are gone through from the front on: of long rows too, and with the whole length ahead.
func TestSumOfLong(t *testing.T) {
	b := row(1<<24 + 1)
	sum := mix.Mix(77, 1<<24+1)
	for i := range b {
		sum = mix.Mix(sum, uint64(b[i]))
	}
	holdSum(t, 77, b, sum)
}

// P3.1: texts that differ in one octet alone, at any place and by any bit.
func TestSumOneOctet(t *testing.T) {
	texts := [][]byte{row(12)}
	for i := range 12 {
		for bit := range 8 {
			b := row(12)
			b[i] ^= 1 << bit
			texts = append(texts, b)
		}
	}
	holdApart(t, texts)
}

// P3.1: texts that differ in their order alone.
func TestSumOrder(t *testing.T) {
	holdApart(t, [][]byte{
		{1, 2, 3}, {1, 3, 2}, {2, 1, 3}, {2, 3, 1}, {3, 1, 2}, {3, 2, 1},
		{0, 0, 1}, {0, 1, 0}, {1, 0, 0}, {255, 0}, {0, 255}, {254, 255}, {255, 254},
	})
}

// P3.1: texts of one octet again and again, that differ in their length alone.
func TestSumLength(t *testing.T) {
	for _, octet := range []byte{0, 1, 255} {
		var texts [][]byte
		for n := range 40 {
			texts = append(texts, bytes.Repeat([]byte{octet}, n))
		}
		for _, n := range []int{255, 256, 257} {
			texts = append(texts, bytes.Repeat([]byte{octet}, n))
		}
		holdApart(t, texts)
	}
}

// P3.1: one text has another sum with each seed, for each step can be taken back.
func TestSumSeeds(t *testing.T) {
	for _, b := range [][]byte{nil, {0}, {7, 7}, allOctets()} {
		whose := map[uint64]uint64{}
		for _, seed := range numbers {
			sum := mix.Sum(seed, b)
			if other, ok := whose[sum]; ok {
				t.Errorf("seeds %d and %d give %d octets one sum %d", other, seed, len(b), sum)
			}
			whose[sum] = seed
		}
	}
}

// P3.1 and P2: the octets that were handed in stay as they were, and so do those beside them, which do not count.
func TestSumMemory(t *testing.T) {
	for _, n := range []int{0, 1, 2, 5, 100} {
		all := row(n + 20)
		kept := bytes.Clone(all)
		want := summed(t, 4, kept[10:10+n])
		holdSum(t, 4, all[10:10+n], want)
		if !bytes.Equal(all, kept) {
			t.Errorf("of %d octets: %v, want %v", n, all, kept)
		}
		for i := range all {
			if i < 10 || i >= 10+n {
				all[i]++
			}
		}
		holdSum(t, 4, all[10:10+n], want)
	}
}

// P3.1 and P3: an answer hangs on nothing that was asked ahead, and an octet that is changed later counts anew.
func TestNothingKept(t *testing.T) {
	b := row(30)
	first, other := mix.Sum(1, b), summed(t, 2, b)
	for range 3 {
		holdSum(t, 2, b, other)
		holdSum(t, 1, b, first)
		holdMix(t, 1, 2, mixed(t, 1, 2))
	}
	b[29]++
	holdSum(t, 1, b, summed(t, 1, b))
	b[29]--
	holdSum(t, 1, b, first)
}

// P3.2: the sum of a text is that of its front, begun with the whole text's length, gone on with the rest, wherever it is cut.
func TestSumGoesOn(t *testing.T) {
	for _, b := range [][]byte{{}, {0}, {255}, {0, 0}, row(40), allOctets()[220:]} {
		for _, seed := range seeds {
			front := mix.Mix(seed, uint64(len(b)))
			for cut, octet := range b {
				holdSum(t, seed, b, goneOn(t, front, b[cut:]))
				front = mix.Mix(front, uint64(octet))
			}
			holdSum(t, seed, b, front)
		}
	}
}

// P3.2: likewise by Sum of the front itself, with the seed by which its length counts as the whole text's.
func TestSumOfFront(t *testing.T) {
	b := row(60)
	back := against(11400714819323198485)
	for _, seed := range seeds {
		for cut := range len(b) + 1 {
			sum := mix.Sum(seed+back*uint64(len(b)-cut), b[:cut])
			for _, octet := range b[cut:] {
				sum = mix.Mix(sum, uint64(octet))
			}
			holdSum(t, seed, b, sum)
		}
	}
}

// P3.2: Mix of one a is another number for each b: from the answer that b comes back.
func TestMixTakenBack(t *testing.T) {
	for _, a := range numbers {
		for _, b := range numbers {
			if got := secondOf(a, mix.Mix(a, b)); got != b {
				t.Errorf("Mix(%d, %d) is that of %d too", a, b, got)
			}
			if answer := mix.Mix(a, secondOf(a, b)); answer != b {
				t.Errorf("Mix(%d, %d) = %d, want %d", a, secondOf(a, b), answer, b)
			}
		}
	}
}

// P3.2: of one a, no two of many b that stand beside each other have one answer; nor do those that differ in high bits alone.
func TestMixApart(t *testing.T) {
	for _, a := range seeds {
		whose := map[uint64]uint64{}
		for i := range uint64(1 << 12) {
			for _, b := range []uint64{i, i<<16 | 1<<60, i<<32 | 1<<61, i<<52 | 1<<51, math.MaxUint64 - i<<4} {
				answer := mix.Mix(a, b)
				if other, ok := whose[answer]; ok && other != b {
					t.Fatalf("Mix(%d, %d) and Mix(%d, %d) are both %d", a, other, a, b, answer)
				}
				whose[answer] = b
			}
		}
	}
}
