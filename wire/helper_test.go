package wire_test

import (
	"math"
	"math/rand/v2"
	"slices"
	"strings"
	"testing"

	"saleroom/api"
	"saleroom/fraction"
	"saleroom/wire"
)

// newSource returns a source of the same numbers in every run.
func newSource() *rand.Rand {
	return rand.New(rand.NewPCG(5, 6))
}

// edgeUints returns integers at which the number of groups changes, and those beside them.
func edgeUints() []uint64 {
	all := []uint64{0, 1, 300, math.MaxInt64, math.MaxUint64 - 1, math.MaxUint64}
	for i := 1; i < 64; i++ {
		all = append(all, 1<<i-1, 1<<i, 1<<i+1)
	}
	return all
}

// manyUints returns the edge integers and random integers of all sizes.
func manyUints() []uint64 {
	source := newSource()
	all := edgeUints()
	for i := range 5000 {
		all = append(all, source.Uint64()>>(i%64))
	}
	return all
}

// manyInts returns integers with both signs and of all sizes, and those at the limits.
func manyInts() []int64 {
	all := []int64{math.MinInt64, math.MinInt64 + 1, math.MaxInt64 - 1}
	for _, x := range manyUints() {
		all = append(all, int64(x), -int64(x))
	}
	return all
}

// manyTexts returns strings that look like encodings, that are not UTF-8, and at whose length the number of groups changes.
func manyTexts() []string {
	return []string{
		"", "a", "ab", "\x00", "\x00\x00", "\x80", "\xff", "\x01a", "\x02ab", "ä", "\u20ac", "\ufffd", "\xc3", "a\nb",
		strings.Repeat("x", 126), strings.Repeat("x", 127), strings.Repeat("x", 128), strings.Repeat("\x80", 129),
		strings.Repeat("y", 16383), strings.Repeat("y", 16384), strings.Repeat("\x00", 70000),
	}
}

// manyFractions returns the edge fractions and random fractions of up to forty digits.
func manyFractions() []api.Frac {
	source := newSource()
	all := edgeFractions()
	for i := range 500 {
		f, _ := fraction.Make(source.IntN(2) == 0, someNat(source, i%40), append(someNat(source, i%37), 1))
		all = append(all, f)
	}
	return all
}

// edgeFractions returns fractions whose digits are at the limits of digits and of groups.
func edgeFractions() []api.Frac {
	all := []api.Frac{{Den: api.Nat{1}}}
	for _, num := range []api.Nat{{1}, {2}, {127}, {128}, {math.MaxUint32}, {0, 1}, {math.MaxUint32, math.MaxUint32}, {0, 0, 1}} {
		for _, den := range []api.Nat{{1}, {4}, {127}, {16384}, {math.MaxUint32}, {0, 1}, {1, 1}, {0, 0, 0, 5}} {
			f, _ := fraction.Make(false, num, den)
			all = append(all, f, fraction.Neg(f))
		}
	}
	return all
}

// someNat returns a list of random digits without a zero at its end.
func someNat(source *rand.Rand, length int) api.Nat {
	var a api.Nat
	for range length {
		a = append(a, source.Uint32()>>source.IntN(32)|1)
	}
	return a
}

// longFraction returns a fraction with a numerator and a denominator of the given numbers of digits. The numerator is
// a power of two, and the denominator is odd.
func longFraction(numDigits, denDigits int) api.Frac {
	num, den := make(api.Nat, numDigits), make(api.Nat, denDigits)
	den[0] = 3
	num[numDigits-1], den[denDigits-1] = 128, 5
	return api.Frac{Neg: true, Num: num, Den: den}
}

// badFractions are not valid.
func badFractions() []api.Frac {
	return []api.Frac{
		{},
		{Neg: true},
		{Num: api.Nat{1}},
		{Num: api.Nat{1}, Den: api.Nat{0}},
		{Neg: true, Den: api.Nat{1}},
		{Den: api.Nat{2}},
		{Num: api.Nat{0}, Den: api.Nat{1}},
		{Num: api.Nat{1, 0}, Den: api.Nat{1}},
		{Num: api.Nat{1}, Den: api.Nat{3, 0}},
		{Num: api.Nat{2}, Den: api.Nat{4}},
		{Neg: true, Num: api.Nat{6}, Den: api.Nat{3}},
		{Num: api.Nat{7}, Den: api.Nat{7}},
	}
}

// equal compares field by field.
func equal(a, b api.Frac) bool {
	return a.Neg == b.Neg && slices.Equal(a.Num, b.Num) && slices.Equal(a.Den, b.Den)
}

// expectLeft expects that the reader has no error and that the given number of bytes is left.
func expectLeft(t *testing.T, what string, r *wire.Reader, want int) {
	t.Helper()
	if r.Err() != api.OK || r.Left() != want {
		t.Fatalf("%s: %v with %d bytes left, want no error and %d bytes left", what, r.Err(), r.Left(), want)
	}
}

// expectFailed expects that the reader has the error, that it reads nothing more, and that it keeps the error.
func expectFailed(t *testing.T, what string, r *wire.Reader, want api.Errno) {
	t.Helper()
	for _, use := range []func(){
		func() {},
		func() { r.Fail(api.ErrProof) },
		func() { r.Fail(api.OK) },
		func() { r.End() },
	} {
		use()
		expectNothing(t, what, r)
		if got := r.Err(); got != want {
			t.Fatalf("%s: Err is %v, want %v", what, got, want)
		}
		if got := r.End(); got != want {
			t.Fatalf("%s: End is %v, want %v", what, got, want)
		}
	}
}

// expectNothing expects zero values from every method that reads.
func expectNothing(t *testing.T, what string, r *wire.Reader) {
	t.Helper()
	if got := r.Uint(math.MaxUint64); got != 0 {
		t.Fatalf("%s: then Uint is %d", what, got)
	}
	if got := r.Int(); got != 0 {
		t.Fatalf("%s: then Int is %d", what, got)
	}
	if got := r.Text(math.MaxInt); got != "" {
		t.Fatalf("%s: then Text is %q", what, got)
	}
	if got := r.Text(-1); got != "" {
		t.Fatalf("%s: then Text(-1) is %q", what, got)
	}
	if got := r.Fraction(); !equal(got, api.Frac{}) {
		t.Fatalf("%s: then Fraction is %v", what, got)
	}
	if got := r.Left(); got != 0 {
		t.Fatalf("%s: then %d bytes are left", what, got)
	}
}
