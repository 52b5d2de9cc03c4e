package wire_test

import (
	"slices"
	"strings"
	"testing"

	"saleroom/api"
	"saleroom/wire"
)

// P4.9, P4.10
func TestReaderFraction(t *testing.T) {
	cases := []struct {
		s    string
		want api.Frac
		left int
	}{
		{"\x01\x01\x03\x01\x04", api.Frac{Neg: true, Num: api.Nat{3}, Den: api.Nat{4}}, 0},
		{"\x00\x00\x01\x01", api.Frac{Den: api.Nat{1}}, 0},
		{"\x00\x01\x01\x01\x02\x00\x80", api.Frac{Num: api.Nat{1}, Den: api.Nat{2}}, 2},
		{"\x00\x01\xac\x02\x01\x01", api.Frac{Num: api.Nat{300}, Den: api.Nat{1}}, 0},
		{"\x00\x02\x00\x01\x01\xff\xff\xff\xff\x0f", api.Frac{Num: api.Nat{0, 1}, Den: api.Nat{1<<32 - 1}}, 0},
	}
	for _, c := range cases {
		r := wire.NewReader(c.s)
		if got := r.Fraction(); !equal(got, c.want) {
			t.Errorf("Fraction of %x = %v, want %v", c.s, got, c.want)
		}
		expectLeft(t, "Fraction", r, c.left)
	}
}

// expectNoFraction expects that reading a fraction from s fails with the error.
func expectNoFraction(t *testing.T, s string, want api.Errno) {
	t.Helper()
	r := wire.NewReader(s)
	if got := r.Fraction(); !equal(got, api.Frac{}) {
		t.Errorf("Fraction of %x = %v", s, got)
	}
	expectFailed(t, "Fraction", r, want)
}

// P4.9: the errors of the sign, of numbers of digits, and of digits, of which the first one counts
func TestReaderFractionErrors(t *testing.T) {
	cases := []struct {
		s    string
		want api.Errno
	}{
		{"\x02\x01\x03\x01\x04", api.ErrRange},
		{"\x80\x01\x01\x03\x01\x04", api.ErrRange},
		{"\x02", api.ErrRange},
		{"\x80\x00\x01\x03\x01\x04", api.ErrFormat},
		{"\x00\xd1\x0f", api.ErrRange},
		{"\x00\xd1\x0f\x80\x00", api.ErrRange},
		{"\x00\x81\x00\x03\x01\x04", api.ErrFormat},
		{"\x00\x01\x80\x80\x80\x80\x10\x01\x01", api.ErrRange},
		{"\x00\x02\x80\x80\x80\x80\x10\x80\x00", api.ErrRange},
		{"\x00\x02\x80\x00\x80\x80\x80\x80\x10", api.ErrFormat},
		{"\x00\x01\x83\x00\x01\x01", api.ErrFormat},
		{"\x00\x01\x03\xd1\x0f", api.ErrRange},
		{"\x00\x01\x03\x81\x00\x01", api.ErrFormat},
		{"\x00\x01\x03\x01\x80\x80\x80\x80\x10", api.ErrRange},
		{"\x00\x01\x03\x01\x84\x00", api.ErrFormat},
		{"\x00\x01\x00\x01\x80\x80\x80\x80\x10", api.ErrRange},
		{"\x00\x01\x00\x01", api.ErrShort},
		{"\x00\xd0\x0f", api.ErrShort},
		{"\x00\xd0\x0f\x00\x01", api.ErrShort},
		{"\x00\x03\x01\x01", api.ErrShort},
	}
	for _, c := range cases {
		expectNoFraction(t, c.s, c.want)
	}
}

// P4.9: bytes that end at any place of an encoding
func TestReaderFractionShort(t *testing.T) {
	for _, f := range edgeFractions() {
		whole := wire.Fraction(f)
		for i := range len(whole) {
			expectNoFraction(t, whole[:i], api.ErrShort)
		}
	}
}

// P4.9: the example of the chapter, and all other ways to be not valid
func TestReaderFractionNotValid(t *testing.T) {
	expectNoFraction(t, "\x00\x01\x02\x01\x04", api.ErrFormat)
	for _, f := range badFractions() {
		expectNoFraction(t, wire.Fraction(f), api.ErrFormat)
		expectNoFraction(t, wire.Fraction(f)+"\x00\x01", api.ErrFormat)
	}
}

// P4.9, P4.14: 2000 digits can be read, and 2001 cannot.
func TestReaderFractionOfLongNumbers(t *testing.T) {
	for _, f := range []api.Frac{longFraction(2000, 1), longFraction(1, 2000), longFraction(2000, 2000)} {
		r := wire.NewReader(wire.Fraction(f) + "x")
		if got := r.Fraction(); !equal(got, f) {
			t.Errorf("a fraction of %d and %d digits is read as one of %d and %d", len(f.Num), len(f.Den), len(got.Num), len(got.Den))
		}
		expectLeft(t, "a long fraction", r, 1)
	}
	expectNoFraction(t, wire.Fraction(longFraction(2001, 1)), api.ErrRange)
	expectNoFraction(t, wire.Fraction(longFraction(1, 2001)), api.ErrRange)
	expectNoFraction(t, "\x00"+wire.Uint(1<<63)+strings.Repeat("\x01", 5000), api.ErrRange)
}

// R3: results are new memory.
func TestReaderFractionSharesNothing(t *testing.T) {
	f := longFraction(5, 3)
	r := wire.NewReader(wire.Fraction(f) + wire.Fraction(f))
	first := r.Fraction()
	overwrite(first.Num)
	if !slices.Equal(first.Den, f.Den) {
		t.Errorf("the denominator became %v", first.Den)
	}
	overwrite(first.Den)
	if second := r.Fraction(); !equal(second, f) {
		t.Errorf("the second fraction is %v", second)
	}
}

// overwrite fills a and its spare capacity.
func overwrite(a api.Nat) {
	whole := a[:cap(a)]
	for i := range whole {
		whole[i] = 12345
	}
}
