// Package natural: arbitrary-precision natural numbers. See shared/doc/01-natural.md.
//
// Every function trims its arguments first. That costs nothing for valid numbers, and it makes the functions safe for
// lists that end in zeros: the code after it may rely on a last digit other than 0.
package natural

import (
	"math/bits"
	"slices"

	"saleroom/api"
)

// digitBits is the number of bits of a digit.
const digitBits = 32

// Valid reports whether a is valid: empty, or with a last digit other than 0.
func Valid(a api.Nat) bool {
	return len(a) == 0 || a[len(a)-1] != 0
}

// FromUint returns the number x.
func FromUint(x uint64) api.Nat {
	return trim(api.Nat{uint32(x), uint32(x >> digitBits)})
}

// Uint returns a as an integer and true, or 0 and false if it is 2^64 or more.
func Uint(a api.Nat) (uint64, bool) {
	a = trim(a)
	if !small(a) {
		return 0, false
	}
	return low(a), true
}

// Cmp returns -1, 0 or 1 if a is less than, equal to, or greater than b.
func Cmp(a, b api.Nat) int {
	a, b = trim(a), trim(b)
	if len(a) != len(b) {
		return order(len(a) < len(b))
	}
	for i := len(a) - 1; i >= 0; i-- {
		if a[i] != b[i] {
			return order(a[i] < b[i])
		}
	}
	return 0
}

// order returns the result of a comparison of different numbers.
func order(less bool) int {
	if less {
		return -1
	}
	return 1
}

// Add returns the sum of a and b.
func Add(a, b api.Nat) api.Nat {
	a, b = trim(a), trim(b)
	if len(a) < len(b) {
		a, b = b, a
	}
	sum := make(api.Nat, len(a)+1)
	copy(sum, a)
	addTo(sum, b)
	return trim(sum)
}

// addTo adds b to a in place. A carry out of the last digit of a is lost.
func addTo(a, b api.Nat) {
	var carry uint64
	for i := range len(a) {
		if i < len(b) {
			carry += uint64(b[i])
		} else if carry == 0 {
			return
		}
		carry += uint64(a[i])
		a[i] = uint32(carry)
		carry >>= digitBits
	}
}

// Sub returns a - b and true, or zero and false if b is greater than a.
func Sub(a, b api.Nat) (api.Nat, bool) {
	a, b = trim(a), trim(b)
	if Cmp(a, b) < 0 {
		return nil, false
	}
	difference := slices.Clone(a)
	var borrow uint32
	for i := range len(a) {
		var digit uint32
		if i < len(b) {
			digit = b[i]
		} else if borrow == 0 {
			break
		}
		difference[i], borrow = bits.Sub32(a[i], digit, borrow)
	}
	return trim(difference), true
}

// Mul returns the product of a and b.
func Mul(a, b api.Nat) api.Nat {
	a, b = trim(a), trim(b)
	product := make(api.Nat, len(a)+len(b))
	for i := range len(a) {
		end := i + len(b) + 1
		addProduct(product[i:end:end], b, a[i])
	}
	return trim(product)
}

// addProduct adds b * factor to the window in place. The window has one digit more than b, which is 0 before.
func addProduct(window, b api.Nat, factor uint32) {
	var carry uint64
	for i := range len(b) {
		carry += uint64(window[i]) + uint64(b[i])*uint64(factor)
		window[i] = uint32(carry)
		carry >>= digitBits
	}
	window[len(b)] = uint32(carry)
}

// Bits returns the number of binary digits of a.
func Bits(a api.Nat) int {
	a = trim(a)
	if len(a) == 0 {
		return 0
	}
	last := len(a) - 1
	return last*digitBits + bits.Len32(a[last])
}

// trim returns a without its last zeros. The limited capacity keeps an append from writing behind the sublist.
func trim(a api.Nat) api.Nat {
	n := len(a)
	for n > 0 && a[n-1] == 0 {
		n--
	}
	return a[:n:n]
}

// small reports whether the trimmed number a is less than 2^64.
func small(a api.Nat) bool {
	return len(a) <= 2
}

// low returns the number that the first two digits of a denote.
func low(a api.Nat) uint64 {
	var x uint64
	for i := range min(len(a), 2) {
		x |= uint64(a[i]) << (digitBits * i)
	}
	return x
}
