package fraction

import (
	"saleroom/api"
	"saleroom/natural"
)

// minSize is the size of the least int64, which is greater by 1 than that of the greatest.
const minSize = 1 << 63

// Floor returns the greatest integer that is at most a and true, or 0 and false if it is not an int64.
func Floor(a api.Frac) (int64, bool) {
	return round(a, a.Neg)
}

// Ceil returns the smallest integer that is at least a and true, or 0 and false if it is not an int64.
func Ceil(a api.Frac) (int64, bool) {
	return round(a, !a.Neg)
}

// round returns a, rounded away from zero if away is set and towards zero otherwise.
func round(a api.Frac, away bool) (int64, bool) {
	q, r, e := natural.DivMod(a.Num, a.Den)
	if e != api.OK {
		return 0, false
	}
	if away && !isZero(r) {
		q = natural.Add(q, natural.FromUint(1))
	}
	size, fits := natural.Uint(q)
	return withSign(a.Neg, size, fits)
}

// withSign returns the integer of the sign and the size and true, or 0 and false if it does not fit.
func withSign(neg bool, size uint64, fits bool) (int64, bool) {
	switch {
	case !fits || size > minSize || size == minSize && !neg:
		return 0, false
	case neg:
		return int64(-size), true
	}
	return int64(size), true
}
