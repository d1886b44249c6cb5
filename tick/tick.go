// Package tick: time that may run over: see doc/01-tick.md.
package tick

import (
	"math"
	"math/bits"
)

// halfBits is the width of the two halves in which Sum reckons, halfMask the bits of the lower one.
const (
	halfBits = 32
	halfMask = 1<<halfBits - 1
)

// Add answers a + b; 0, false, where no int64 has it.
func Add(a, b int64) (int64, bool) {
	if b > 0 && a > math.MaxInt64-b || b < 0 && a < math.MinInt64-b {
		return 0, false
	}
	return a + b, true
}

// Mul answers a * b; 0, false, where no int64 has it.
func Mul(a, b int64) (int64, bool) {
	if !productFits(a, b) {
		return 0, false
	}
	return a * b, true
}

// productFits asks by quotients, since the product itself could wrap.
// Each quotient is rounded towards 0, which is the last factor that still fits.
func productFits(a, b int64) bool {
	switch {
	case a > 0 && b > 0:
		return a <= math.MaxInt64/b
	case a > 0 && b < 0:
		return b >= math.MinInt64/a
	case a < 0 && b > 0:
		return a >= math.MinInt64/b
	case a < 0 && b < 0:
		return a >= math.MaxInt64/b
	}
	return true
}

// Up answers a / b, rounded up; 0 where b is not above 0.
func Up(a, b int64) int64 {
	if b <= 0 {
		return 0
	}
	q := a / b
	// Go rounds towards 0: that is up already, but for a quotient above 0.
	if a%b > 0 {
		q++
	}
	return q
}

// Down answers a / b, rounded down; 0 where b is not above 0.
func Down(a, b int64) int64 {
	if b <= 0 {
		return 0
	}
	q := a / b
	// Go rounds towards 0: that is down already, but for a quotient below 0.
	if a%b < 0 {
		q--
	}
	return q
}

// Less tells whether a/b is less than c/d, exactly; false where b or d is not above 0.
func Less(a, b, c, d int64) bool {
	if b <= 0 || d <= 0 {
		return false
	}
	// Where the whole parts are the same, what is left over decides. It is never below 0, so that its products need no signs.
	p, q := Down(a, b), Down(c, d)
	if p != q {
		return p < q
	}
	return productLess(rest(a, b), uint64(d), rest(c, d), uint64(b))
}

// rest answers what Down(a, b) leaves of a, from 0 to b - 1; b is above 0.
func rest(a, b int64) uint64 {
	r := a % b
	if r < 0 {
		r += b
	}
	return uint64(r)
}

// productLess tells whether a * b is less than c * d, in 128 bits, since 64 may be too few.
func productLess(a, b, c, d uint64) bool {
	high, low := bits.Mul64(a, b)
	otherHigh, otherLow := bits.Mul64(c, d)
	if high != otherHigh {
		return high < otherHigh
	}
	return low < otherLow
}

// Sum answers the sum of all of l; 0, false, where no int64 has it.
func Sum(l ...int64) (int64, bool) {
	// The sum is kept as high * 2^32 + low: what runs over in between has room in high.
	var high, low int64
	for _, v := range l {
		low += v & halfMask
		high += v>>halfBits + low>>halfBits
		low &= halfMask
	}
	if high < math.MinInt32 || high > math.MaxInt32 {
		return 0, false
	}
	return high<<halfBits | low, true
}
