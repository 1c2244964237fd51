// Package fixnum is layer 1: see shared/doc/01-fixnum.md.
package fixnum

import (
	"math"
	"math/bits"
)

// leastMagnitude is one more than the greatest number has: the least number lies that far below nought.
const leastMagnitude uint64 = 1 << 63

// Add is a sum; false: it leaves 64 bits.
func Add(a, b int64) (int64, bool) {
	n := a + b
	// Only a wrapped sum has a sign that both of its parts lack.
	if (a^n)&(b^n) < 0 {
		return 0, false
	}
	return n, true
}

// Sub is a difference.
func Sub(a, b int64) (int64, bool) {
	n := a - b
	// It can wrap only where the signs differ, and then a's sign is lost.
	if (a^b)&(a^n) < 0 {
		return 0, false
	}
	return n, true
}

// Mul is a product.
func Mul(a, b int64) (int64, bool) {
	high, low := bits.Mul64(magnitude(a), magnitude(b))
	if high != 0 {
		return 0, false
	}
	return signed(low, (a < 0) != (b < 0))
}

// Div is a quotient, cut towards nought.
func Div(a, b int64) (int64, bool) {
	switch b {
	case 0:
		return 0, false
	case -1:
		// The least number by -1 would wrap.
		return Neg(a)
	}
	return a / b, true
}

// Mod is what Div leaves.
func Mod(a, b int64) (int64, bool) {
	switch b {
	case 0:
		return 0, false
	case -1:
		// Nothing is left, even where the quotient itself is out of bounds.
		return 0, true
	}
	return a % b, true
}

// Neg is the number turned about nought.
func Neg(a int64) (int64, bool) {
	if a == math.MinInt64 {
		return 0, false
	}
	return -a, true
}

// Cmp is -1, 0 or 1.
func Cmp(a, b int64) int {
	switch {
	case a < b:
		return -1
	case a > b:
		return 1
	}
	return 0
}

// Sum is the sum of all, exact in between.
func Sum(l ...int64) (int64, bool) {
	// Two words hold the sum of more numbers than a list can have.
	var high, low, carry uint64
	for _, n := range l {
		low, carry = bits.Add64(low, uint64(n), 0)
		high, _ = bits.Add64(high, signWord(n), carry)
	}
	n := int64(low)
	if high != signWord(n) {
		return 0, false
	}
	return n, true
}

// MulDiv is a product divided, exact in between.
func MulDiv(a, b, c int64) (int64, bool) {
	by := magnitude(c)
	high, low := bits.Mul64(magnitude(a), magnitude(b))
	// bits.Div64 panics where the quotient needs more than one word, or by is 0.
	if high >= by {
		return 0, false
	}
	quotient, _ := bits.Div64(high, low, by)
	return signed(quotient, (a < 0) != (b < 0) != (c < 0))
}

// magnitude is how far a lies from nought; of the least number, too, which has no opposite of its own.
func magnitude(a int64) uint64 {
	if a < 0 {
		return 0 - uint64(a)
	}
	return uint64(a)
}

// signed is the number that far from nought, on the side that below tells.
func signed(magnitude uint64, below bool) (int64, bool) {
	switch {
	case below && magnitude <= leastMagnitude:
		return int64(0 - magnitude), true
	case !below && magnitude < leastMagnitude:
		return int64(magnitude), true
	}
	return 0, false
}

// signWord is the upper word of a number that is widened to two.
func signWord(n int64) uint64 {
	return uint64(n >> 63)
}
