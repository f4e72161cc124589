package num_test

import (
	"math"
	"math/big"
	"testing"

	"warrener/num"
)

const (
	least    = math.MinInt64
	greatest = math.MaxInt64
	leastInt = math.MinInt
	mostInt  = math.MaxInt
)

// numbers are ordinary ones, those about the bounds, and those whose products just go round.
var numbers = []int64{
	least, least + 1, least + 2, least / 2, least/2 - 1, -1 << 32, -3037000500, -1 << 31, -1000003, -8, -7, -3, -2, -1,
	0, 1, 2, 3, 7, 8, 1000003, 1 << 31, 1<<32 - 1, 1 << 32, 3037000500, greatest / 2, greatest/2 + 1, greatest - 1, greatest,
}

// round takes a whole number of any size modulo 2^64, as a number with a sign.
func round(n *big.Int) int64 {
	whole := new(big.Int).Lsh(big.NewInt(1), 64)
	return int64(new(big.Int).Mod(n, whole).Uint64())
}

type pairCase struct {
	a, b, want int64
}

func holdPairs(t *testing.T, name string, call func(int64, int64) int64, cases []pairCase) {
	t.Helper()
	for _, c := range cases {
		if got := call(c.a, c.b); got != c.want {
			t.Errorf("%s(%d, %d) = %d, want %d", name, c.a, c.b, got, c.want)
		}
	}
}

// P1.1: Add, at ordinary numbers and at the bounds.
func TestAdd(t *testing.T) {
	holdPairs(t, "Add", num.Add, []pairCase{
		{0, 0, 0}, {2, 3, 5}, {2, -3, -1}, {-2, -3, -5},
		{greatest, 0, greatest}, {least, 0, least}, {greatest, least, -1},
		{greatest, 1, least}, {1, greatest, least}, {least, -1, greatest},
		{greatest, greatest, -2}, {least, least, 0},
	})
}

// P1.1: Sub, at ordinary numbers and at the bounds.
func TestSub(t *testing.T) {
	holdPairs(t, "Sub", num.Sub, []pairCase{
		{0, 0, 0}, {5, 3, 2}, {3, 5, -2}, {-3, -5, 2},
		{least, 0, least}, {least, least, 0}, {greatest, greatest, 0},
		{least, 1, greatest}, {greatest, -1, least}, {0, least, least},
		{greatest, least, -1}, {least, greatest, 1},
	})
}

// P1.1: Mul, at ordinary numbers and at the bounds.
func TestMul(t *testing.T) {
	holdPairs(t, "Mul", num.Mul, []pairCase{
		{0, 9, 0}, {6, 7, 42}, {-6, 7, -42}, {-6, -7, 42},
		{greatest, 1, greatest}, {least, 1, least}, {greatest, -1, least + 1},
		{least, -1, least}, {-1, least, least}, {least, 2, 0}, {greatest, 2, -2},
		{greatest, greatest, 1}, {least, least, 0}, {1 << 32, 1 << 32, 0}, {1 << 32, 1 << 31, least},
	})
}

// P1.1: all three are the whole numbers' own, modulo 2^64.
func TestGoneRound(t *testing.T) {
	for _, a := range numbers {
		for _, b := range numbers {
			x, y := big.NewInt(a), big.NewInt(b)
			if got, want := num.Add(a, b), round(new(big.Int).Add(x, y)); got != want {
				t.Errorf("Add(%d, %d) = %d, want %d", a, b, got, want)
			}
			if got, want := num.Sub(a, b), round(new(big.Int).Sub(x, y)); got != want {
				t.Errorf("Sub(%d, %d) = %d, want %d", a, b, got, want)
			}
			if got, want := num.Mul(a, b), round(new(big.Int).Mul(x, y)); got != want {
				t.Errorf("Mul(%d, %d) = %d, want %d", a, b, got, want)
			}
		}
	}
}

// P1.1: Div cuts towards 0, whatever the signs are; the least number by -1 is the least number.
func TestDiv(t *testing.T) {
	cases := []pairCase{
		{0, 5, 0}, {42, 7, 6}, {7, 2, 3}, {7, -2, -3}, {-7, 2, -3}, {-7, -2, 3},
		{1, 2, 0}, {-1, 2, 0}, {1, -2, 0}, {6, 7, 0},
		{greatest, 1, greatest}, {greatest, -1, least + 1}, {greatest, greatest, 1}, {greatest, least, 0},
		{least, 1, least}, {least, -1, least}, {least, 2, -1 << 62}, {least, least, 1}, {least, greatest, -1},
		{least + 1, -1, greatest},
	}
	for _, c := range cases {
		if got, ok := num.Div(c.a, c.b); got != c.want || !ok {
			t.Errorf("Div(%d, %d) = %d, %v, want %d, true", c.a, c.b, got, ok, c.want)
		}
	}
}

// P1.1: by 0 there is no quotient, whatever is to be divided.
func TestDivByZero(t *testing.T) {
	for _, a := range numbers {
		if got, ok := num.Div(a, 0); got != 0 || ok {
			t.Errorf("Div(%d, 0) = %d, %v, want 0, false", a, got, ok)
		}
	}
}

// P1.1: a quotient is the whole numbers' own, cut towards 0 and gone round.
func TestQuotients(t *testing.T) {
	for _, a := range numbers {
		for _, b := range numbers {
			if b == 0 {
				continue
			}
			want := round(new(big.Int).Quo(big.NewInt(a), big.NewInt(b)))
			if got, ok := num.Div(a, b); got != want || !ok {
				t.Errorf("Div(%d, %d) = %d, %v, want %d, true", a, b, got, ok, want)
			}
		}
	}
}

// P1.1: Clamp, with bounds that are the number itself, bounds that are one, and bounds the wrong way round.
func TestClamp(t *testing.T) {
	cases := []struct{ n, lo, hi, want int }{
		{3, 1, 4, 3}, {0, 1, 4, 1}, {5, 1, 4, 4}, {-9, -4, -1, -4}, {0, -4, -1, -1},
		{1, 1, 4, 1}, {4, 1, 4, 4}, {2, 2, 2, 2}, {1, 2, 2, 2}, {3, 2, 2, 2},
		{leastInt, 0, mostInt, 0}, {mostInt, leastInt, 0, 0}, {leastInt, leastInt, mostInt, leastInt}, {mostInt, leastInt, mostInt, mostInt},
		{leastInt, mostInt, mostInt, mostInt}, {mostInt, leastInt, leastInt, leastInt},
		{0, 4, 1, 4}, {1, 4, 1, 4}, {2, 4, 1, 4}, {3, 4, 1, 4}, {4, 4, 1, 1}, {5, 4, 1, 1},
		{0, mostInt, leastInt, mostInt}, {mostInt, mostInt, leastInt, leastInt}, {leastInt, mostInt, leastInt, mostInt},
	}
	for _, c := range cases {
		if got := num.Clamp(c.n, c.lo, c.hi); got != c.want {
			t.Errorf("Clamp(%d, %d, %d) = %d, want %d", c.n, c.lo, c.hi, got, c.want)
		}
	}
}

// P1.1: In, with bounds that are the number itself, bounds that are one, and bounds the wrong way round.
func TestIn(t *testing.T) {
	cases := []struct {
		n, lo, hi int
		want      bool
	}{
		{3, 1, 4, true}, {1, 1, 4, true}, {4, 1, 4, true}, {0, 1, 4, false}, {5, 1, 4, false},
		{2, 2, 2, true}, {1, 2, 2, false}, {3, 2, 2, false}, {-2, -4, -1, true}, {0, -4, -1, false},
		{leastInt, leastInt, mostInt, true}, {mostInt, leastInt, mostInt, true}, {0, leastInt, mostInt, true},
		{leastInt, leastInt, leastInt, true}, {mostInt, mostInt, mostInt, true}, {leastInt, mostInt, mostInt, false},
		{mostInt, leastInt, leastInt, false},
		{0, 4, 1, false}, {1, 4, 1, false}, {2, 4, 1, false}, {4, 4, 1, false}, {5, 4, 1, false},
		{0, mostInt, leastInt, false}, {mostInt, mostInt, leastInt, false}, {leastInt, mostInt, leastInt, false},
	}
	for _, c := range cases {
		if got := num.In(c.n, c.lo, c.hi); got != c.want {
			t.Errorf("In(%d, %d, %d) = %v, want %v", c.n, c.lo, c.hi, got, c.want)
		}
	}
}

// P1.2: what is added, taken away, is the number again; and the other way round.
func TestThereAndBack(t *testing.T) {
	for _, a := range numbers {
		for _, b := range numbers {
			if got := num.Sub(num.Add(a, b), b); got != a {
				t.Errorf("Sub(Add(%d, %d), %d) = %d", a, b, b, got)
			}
			if got := num.Add(num.Sub(a, b), b); got != a {
				t.Errorf("Add(Sub(%d, %d), %d) = %d", a, b, b, got)
			}
		}
	}
}
