package fraction

import (
	"saleroom/api"
	"saleroom/natural"
)

// Neg returns -a.
func Neg(a api.Frac) api.Frac {
	return clone(opposite(a))
}

// opposite returns -a in the memory of a.
func opposite(a api.Frac) api.Frac {
	return api.Frac{Neg: !a.Neg && !isZero(a.Num), Num: a.Num, Den: a.Den}
}

// Add returns a + b. Whatever the sum of the scaled numerators and the least common denominator have in common divides
// both denominators as well, so that only the common factor of these is searched for it.
func Add(a, b api.Frac) api.Frac {
	switch {
	case isZero(a.Num):
		return clone(b)
	case isZero(b.Num):
		return clone(a)
	}
	common := natural.GCD(a.Den, b.Den)
	scale := quotient(a.Den, common)
	left := natural.Mul(a.Num, quotient(b.Den, common))
	right := natural.Mul(b.Num, scale)
	neg, num := addSigned(a.Neg, left, b.Neg, right)
	rest := natural.GCD(num, common)
	return api.Frac{
		Neg: neg,
		Num: quotient(num, rest),
		Den: natural.Mul(scale, quotient(b.Den, rest)),
	}
}

// addSigned returns the sign and the size of the sum of two numbers other than 0 that are given by sign and size.
func addSigned(leftNeg bool, left api.Nat, rightNeg bool, right api.Nat) (neg bool, size api.Nat) {
	if leftNeg == rightNeg {
		return leftNeg, natural.Add(left, right)
	}
	size, is := natural.Sub(left, right)
	if is {
		return leftNeg && !isZero(size), size
	}
	size, _ = natural.Sub(right, left)
	return rightNeg, size
}

// Sub returns a - b.
func Sub(a, b api.Frac) api.Frac {
	return Add(a, opposite(b))
}

// Mul returns the product of a and b. A common factor can only be one of a numerator and the other denominator.
func Mul(a, b api.Frac) api.Frac {
	if isZero(a.Num) || isZero(b.Num) {
		return zero()
	}
	left := natural.GCD(a.Num, b.Den)
	right := natural.GCD(b.Num, a.Den)
	return api.Frac{
		Neg: a.Neg != b.Neg,
		Num: natural.Mul(quotient(a.Num, left), quotient(b.Num, right)),
		Den: natural.Mul(quotient(a.Den, right), quotient(b.Den, left)),
	}
}

// Div returns a / b, or ErrDivide if b is zero.
func Div(a, b api.Frac) (api.Frac, api.Errno) {
	if isZero(b.Num) {
		return api.Frac{}, api.ErrDivide
	}
	return Mul(a, api.Frac{Neg: b.Neg, Num: b.Den, Den: b.Num}), api.OK
}

// Sum returns the sum of all arguments.
func Sum(l ...api.Frac) api.Frac {
	sum := zero()
	for _, f := range l {
		sum = Add(sum, f)
	}
	return sum
}

// Dot returns the sum of the products of the elements with the same index, as far as both lists go.
func Dot(a, b []api.Frac) api.Frac {
	sum := zero()
	for i := range min(len(a), len(b)) {
		sum = Add(sum, Mul(a[i], b[i]))
	}
	return sum
}
