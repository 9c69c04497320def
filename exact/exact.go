// Package exact is whole numbers of 64 bits that tell whether they are too great. See ../../shared/doc/01-exact.md.
package exact

import "math/bits"

// Add is a and b together; it tells whether that is a number of 64 bits.
func Add(a, b int64) (int64, bool) {
	sum := a + b
	if (sum > a) != (b > 0) {
		return 0, false
	}
	return sum, true
}

// Sub is a less b; it tells whether that is a number of 64 bits.
func Sub(a, b int64) (int64, bool) {
	rest := a - b
	if (rest < a) != (b > 0) {
		return 0, false
	}
	return rest, true
}

// Mul is a times b; it tells whether that is a number of 64 bits.
func Mul(a, b int64) (int64, bool) {
	return Scale(a, b, 1)
}

// Div is a divided by b, rounded down; there is none if b is below 1.
func Div(a, b int64) (int64, bool) {
	if b < 1 {
		return 0, false
	}
	quotient := a / b
	if a%b < 0 { // Go rounds toward 0, which is up for those below it
		quotient--
	}
	return quotient, true
}

// Mod is what Div leaves of a: from 0 on, below b.
func Mod(a, b int64) (int64, bool) {
	if b < 1 {
		return 0, false
	}
	rest := a % b
	if rest < 0 {
		rest += b
	}
	return rest, true
}

// Scale is a times num, divided by den, rounded down, without loss on the way; there is none if den is below 1.
func Scale(a, num, den int64) (int64, bool) {
	if den < 1 {
		return 0, false
	}
	below := (a < 0) != (num < 0)
	quotient, rest := divide(multiply(size(a), size(num)), uint64(den))
	if quotient[0] != 0 || quotient[1] > 1<<63 { // also keeps the step below from going round
		return 0, false
	}
	if below && rest > 0 { // down is away from 0 there
		quotient[1]++
	}
	return signed(below, quotient[1])
}

// Clamp is lo, if a is below it, else hi, if a is above it, else a.
func Clamp(a, lo, hi int64) int64 {
	if a < lo {
		return lo
	}
	if a > hi {
		return hi
	}
	return a
}

// Dist is the greater of both less the lesser one; it tells whether that is a number of 64 bits.
func Dist(a, b int64) (int64, bool) {
	return Sub(max(a, b), min(a, b))
}

// halves is a number of 128 bits, which no product passes: the higher half first, as one writes digits.
type halves [2]uint64

func multiply(a, b uint64) halves {
	high, low := bits.Mul64(a, b)
	return halves{high, low}
}

// divide is a long division: each half is a digit, and what one leaves stands ahead of the next. den is not 0.
func divide(number halves, den uint64) (quotient halves, rest uint64) {
	place := 0
digit:
	quotient[place], rest = bits.Div64(rest, number[place], den)
	place++
	if place < len(number) {
		goto digit
	}
	return quotient, rest
}

// size is how far a is from 0; that of the least number is one that int64 has not.
func size(a int64) uint64 {
	if a < 0 {
		return -uint64(a)
	}
	return uint64(a)
}

// signed is the number of that size, below 0 or not, if it is one of 64 bits with a sign.
func signed(below bool, size uint64) (int64, bool) {
	if below && size <= 1<<63 {
		return int64(-size), true
	}
	if !below && size < 1<<63 {
		return int64(size), true
	}
	return 0, false
}
