// Package num has whole numbers of 64 bits that go round beyond their bounds.
package num

// Add answers a + b, gone round.
func Add(a int64, b int64) int64 {
	return a + b
}

// Sub answers a - b, gone round, so that it takes back what Add did.
func Sub(a int64, b int64) int64 {
	return a - b
}

// Mul answers a * b, gone round.
func Mul(a int64, b int64) int64 {
	return a * b
}

// Div answers the quotient, cut towards 0; 0 and false where b is 0, for then there is none.
// The least number by -1 needs no case of its own: the language has that quotient go round to the least number.
func Div(a int64, b int64) (int64, bool) {
	if b == 0 {
		return 0, false
	}
	return a / b, true
}

// Clamp answers n, brought within the bounds. Where they stand the wrong way round, lo is the first to be asked.
func Clamp(n int, lo int, hi int) int {
	if n < lo {
		return lo
	}
	if n > hi {
		return hi
	}
	return n
}

// In tells whether n is from lo to hi, both of them taken in; where they stand the wrong way round, nothing is.
func In(n int, lo int, hi int) bool {
	return lo <= n && n <= hi
}
