package wire_test

import (
	"encoding/binary"
	"math"
	"slices"
	"strings"
	"testing"

	"saleroom/api"
	"saleroom/wire"
)

// P4.1: the example of the chapter, and integers at the limits of groups
func TestUint(t *testing.T) {
	cases := []struct {
		x    uint64
		want string
	}{
		{300, "\xac\x02"},
		{0, "\x00"},
		{1, "\x01"},
		{127, "\x7f"},
		{128, "\x80\x01"},
		{255, "\xff\x01"},
		{16383, "\xff\x7f"},
		{16384, "\x80\x80\x01"},
		{1<<63 - 1, "\xff\xff\xff\xff\xff\xff\xff\xff\x7f"},
		{1 << 63, "\x80\x80\x80\x80\x80\x80\x80\x80\x80\x01"},
		{math.MaxUint64, "\xff\xff\xff\xff\xff\xff\xff\xff\xff\x01"},
	}
	for _, c := range cases {
		if got := wire.Uint(c.x); got != c.want {
			t.Errorf("Uint(%d) = %x, want %x", c.x, got, c.want)
		}
	}
}

// P4.1: against another implementation
func TestUintOfManyIntegers(t *testing.T) {
	for _, x := range manyUints() {
		if got, want := wire.Uint(x), string(binary.AppendUvarint(nil, x)); got != want {
			t.Fatalf("Uint(%d) = %x, want %x", x, got, want)
		}
	}
}

// P4.2: the examples of the chapter, and the limits
func TestInt(t *testing.T) {
	cases := []struct {
		x    int64
		want string
	}{
		{-1, "\x01"},
		{1, "\x02"},
		{0, "\x00"},
		{-2, "\x03"},
		{63, "\x7e"},
		{-64, "\x7f"},
		{64, "\x80\x01"},
		{-65, "\x81\x01"},
		{150, "\xac\x02"},
		{math.MaxInt64, "\xfe\xff\xff\xff\xff\xff\xff\xff\xff\x01"},
		{math.MinInt64, "\xff\xff\xff\xff\xff\xff\xff\xff\xff\x01"},
	}
	for _, c := range cases {
		if got := wire.Int(c.x); got != c.want {
			t.Errorf("Int(%d) = %x, want %x", c.x, got, c.want)
		}
	}
}

// P4.2: against another implementation
func TestIntOfManyIntegers(t *testing.T) {
	for _, x := range manyInts() {
		if got, want := wire.Int(x), string(binary.AppendVarint(nil, x)); got != want {
			t.Fatalf("Int(%d) = %x, want %x", x, got, want)
		}
	}
}

// P4.3: the example of the chapter, and lengths of more than one byte
func TestText(t *testing.T) {
	cases := []struct{ s, want string }{
		{"ab", "\x02ab"},
		{"", "\x00"},
		{"\x00", "\x01\x00"},
		{"\u20ac", "\x03\xe2\x82\xac"},
		{"\xff\x80", "\x02\xff\x80"},
		{strings.Repeat("x", 127), "\x7f" + strings.Repeat("x", 127)},
		{strings.Repeat("x", 128), "\x80\x01" + strings.Repeat("x", 128)},
		{strings.Repeat("\x80", 300), "\xac\x02" + strings.Repeat("\x80", 300)},
	}
	for _, c := range cases {
		if got := wire.Text(c.s); got != c.want {
			t.Errorf("Text(%q) = %x, want %x", c.s, got, c.want)
		}
	}
}

// P4.4: the example of the chapter, and digits of more than one byte
func TestFraction(t *testing.T) {
	cases := []struct {
		f    api.Frac
		want string
	}{
		{api.Frac{Neg: true, Num: api.Nat{3}, Den: api.Nat{4}}, "\x01\x01\x03\x01\x04"},
		{api.Frac{Num: api.Nat{3}, Den: api.Nat{4}}, "\x00\x01\x03\x01\x04"},
		{api.Frac{Den: api.Nat{1}}, "\x00\x00\x01\x01"},
		{api.Frac{Num: api.Nat{}, Den: api.Nat{1}}, "\x00\x00\x01\x01"},
		{api.Frac{Num: api.Nat{300}, Den: api.Nat{1}}, "\x00\x01\xac\x02\x01\x01"},
		{api.Frac{Num: api.Nat{1}, Den: api.Nat{0, 5, 7}}, "\x00\x01\x01\x03\x00\x05\x07"},
		{api.Frac{Neg: true, Num: api.Nat{math.MaxUint32, 1}, Den: api.Nat{128}}, "\x01\x02\xff\xff\xff\xff\x0f\x01\x01\x80\x01"},
	}
	for _, c := range cases {
		if got := wire.Fraction(c.f); got != c.want {
			t.Errorf("Fraction(%v) = %x, want %x", c.f, got, c.want)
		}
	}
}

// P4.4: numbers of digits of more than one byte
func TestFractionOfLongNumbers(t *testing.T) {
	f := longFraction(2000, 128)
	want := "\x01\xd0\x0f" + strings.Repeat("\x00", 1999) + "\x80\x01" + "\x80\x01\x03" + strings.Repeat("\x00", 126) + "\x05"
	if got := wire.Fraction(f); got != want {
		t.Errorf("Fraction = %x, want %x", got, want)
	}
	if got := wire.Fraction(longFraction(3000, 1)); len(got) != 1+2+2999+2+2 {
		t.Errorf("a fraction of 3000 digits has an encoding of %d bytes", len(got))
	}
}

// R3
func TestFractionLeavesItsArgument(t *testing.T) {
	num, den := api.Nat{300, 2, 77, 77}, api.Nat{5, 1, 77}
	wire.Fraction(api.Frac{Num: num[:2], Den: den[:2]})
	if !slices.Equal(num, api.Nat{300, 2, 77, 77}) || !slices.Equal(den, api.Nat{5, 1, 77}) {
		t.Errorf("the argument became %v / %v", num, den)
	}
}

// R1, R5
func TestFractionOfInvalidFractions(t *testing.T) {
	for _, f := range badFractions() {
		wire.Fraction(f)
	}
}
