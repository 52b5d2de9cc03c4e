package natural

import (
	"math/bits"
	"slices"

	"saleroom/api"
)

// maxDigit is the greatest digit.
const maxDigit = 1<<digitBits - 1

// DivMod returns the quotient and the remainder of a and b, or ErrDivide if b is zero.
func DivMod(a, b api.Nat) (q, r api.Nat, e api.Errno) {
	a, b = trim(a), trim(b)
	if len(b) == 0 {
		return nil, nil, api.ErrDivide
	}
	q, r = divide(a, b)
	return q, r, api.OK
}

// divide returns the quotient and the remainder of trimmed numbers; b is not zero.
func divide(a, b api.Nat) (q, r api.Nat) {
	switch {
	case small(a) && small(b):
		x, y := low(a), low(b)
		return FromUint(x / y), FromUint(x % y)
	case len(a) < len(b):
		return nil, slices.Clone(a)
	case len(b) == 1:
		q = slices.Clone(a)
		rest := divideByDigit(q, b[0])
		return trim(q), FromUint(uint64(rest))
	}
	return divideLong(a, b)
}

// divideByDigit divides a by a digit in place and returns the remainder.
func divideByDigit(a api.Nat, digit uint32) uint32 {
	var rest uint32
	for i := len(a) - 1; i >= 0; i-- {
		a[i], rest = bits.Div32(rest, a[i], digit)
	}
	return rest
}

// divideLong divides a by a number b of at least two and at most len(a) digits, digit by digit. Both are shifted until
// the highest bit of the divisor is set, since the estimates of the digits of the quotient are close only then.
func divideLong(a, b api.Nat) (q, r api.Nat) {
	shift := bits.LeadingZeros32(b[len(b)-1])
	rest := shiftLeft(a, shift)
	divisor := trim(shiftLeft(b, shift))
	n := len(divisor)
	q = make(api.Nat, len(a)-n+1)
	for i := len(q) - 1; i >= 0; i-- {
		end := i + n + 1
		q[i] = divideStep(rest[i:end:end], divisor)
	}
	r = rest[:n:n]
	shiftRight(r, shift)
	return trim(q), trim(r)
}

// divideStep subtracts the divisor from the window in place as often as possible, and returns how often that is. The
// window has one digit more than the divisor, and is less than the divisor times 2^32.
func divideStep(window, divisor api.Nat) uint32 {
	digit := estimate(window, divisor)
	if subtractProduct(window, divisor, digit) {
		// The estimate was too great by 1: the carry that addTo loses makes up for the borrow.
		addTo(window, divisor)
		digit--
	}
	return digit
}

// estimate returns the quotient of the window and the divisor, or 1 more. Only the highest digits are looked at.
func estimate(window, divisor api.Nat) uint32 {
	n := len(divisor)
	top, next := uint64(divisor[n-1]), uint64(divisor[n-2])
	highest := uint64(window[n])<<digitBits | uint64(window[n-1])
	digit := min(highest/top, maxDigit)
	rest := highest - digit*top
	for rest <= maxDigit && digit*next > rest<<digitBits|uint64(window[n-2]) {
		digit--
		rest += top
	}
	return uint32(digit)
}

// subtractProduct subtracts b * factor from the window in place, and reports whether the result is negative. The window
// has one digit more than b.
func subtractProduct(window, b api.Nat, factor uint32) bool {
	var carry uint64
	for i := range len(b) {
		carry += uint64(b[i]) * uint64(factor)
		digit := uint32(carry)
		carry >>= digitBits
		if window[i] < digit {
			carry++
		}
		window[i] -= digit
	}
	negative := uint64(window[len(b)]) < carry
	window[len(b)] -= uint32(carry)
	return negative
}

// shiftLeft returns a times 2^shift, with one digit more than a; shift is less than 32.
func shiftLeft(a api.Nat, shift int) api.Nat {
	shifted := make(api.Nat, len(a)+1)
	var carry uint64
	for i := range len(a) {
		carry |= uint64(a[i]) << shift
		shifted[i] = uint32(carry)
		carry >>= digitBits
	}
	shifted[len(a)] = uint32(carry)
	return shifted
}

// shiftRight divides a by 2^shift in place; shift is less than 32.
func shiftRight(a api.Nat, shift int) {
	var higher uint64
	for i := len(a) - 1; i >= 0; i-- {
		both := higher<<digitBits | uint64(a[i])
		higher = uint64(a[i])
		a[i] = uint32(both >> shift)
	}
}

// GCD returns the greatest common divisor of a and b.
func GCD(a, b api.Nat) api.Nat {
	a, b = trim(a), trim(b)
	if len(a) < len(b) {
		a, b = b, a
	}
	// a has at least as many digits as b, so both are small if a is.
	for !small(a) && len(b) > 0 {
		_, r := divide(a, b)
		a, b = b, r
	}
	if !small(a) {
		return slices.Clone(a)
	}
	return FromUint(smallGCD(low(a), low(b)))
}

// smallGCD returns the greatest common divisor of a and b.
func smallGCD(a, b uint64) uint64 {
	for b > 0 {
		a, b = b, a%b
	}
	return a
}
