package fraction_test

import (
	"math"
	"math/big"
	"testing"

	"saleroom/api"
	"saleroom/fraction"
)

// A rounding is the result of Floor or Ceil.
type rounding struct {
	n    int64
	fits bool
}

func floor(a api.Frac) rounding {
	n, fits := fraction.Floor(a)
	return rounding{n, fits}
}

func ceil(a api.Frac) rounding {
	n, fits := fraction.Ceil(a)
	return rounding{n, fits}
}

// P2.12, P2.13
func TestFloorAndCeil(t *testing.T) {
	least, greatest := rounding{math.MinInt64, true}, rounding{math.MaxInt64, true}
	cases := []struct {
		text        string
		floor, ceil rounding
	}{
		{"0", rounding{0, true}, rounding{0, true}},
		{"1", rounding{1, true}, rounding{1, true}},
		{"-1", rounding{-1, true}, rounding{-1, true}},
		{"1/2", rounding{0, true}, rounding{1, true}},
		{"-1/2", rounding{-1, true}, rounding{0, true}},
		{"7/2", rounding{3, true}, rounding{4, true}},
		{"-7/2", rounding{-4, true}, rounding{-3, true}},
		{"1/18446744073709551616", rounding{0, true}, rounding{1, true}},
		{"-1/18446744073709551616", rounding{-1, true}, rounding{0, true}},
		{"18446744073709551616/4294967296", rounding{1 << 32, true}, rounding{1 << 32, true}},
		{"9223372036854775807", greatest, greatest},
		{"9223372036854775808", rounding{}, rounding{}},
		{"18446744073709551613/2", rounding{math.MaxInt64 - 1, true}, greatest},
		{"18446744073709551615/2", greatest, rounding{}},
		{"18446744073709551617/2", rounding{}, rounding{}},
		{"-9223372036854775807", rounding{-math.MaxInt64, true}, rounding{-math.MaxInt64, true}},
		{"-9223372036854775808", least, least},
		{"-9223372036854775809", rounding{}, rounding{}},
		{"-18446744073709551615/2", least, rounding{-math.MaxInt64, true}},
		{"-18446744073709551617/2", rounding{}, least},
		{"-18446744073709551619/2", rounding{}, rounding{}},
		{"18446744073709551615", rounding{}, rounding{}},
		{"-18446744073709551615", rounding{}, rounding{}},
		{"18446744073709551616", rounding{}, rounding{}},
		{"-18446744073709551616", rounding{}, rounding{}},
		{"36893488147419103231/2", rounding{}, rounding{}},
		{"-36893488147419103231/2", rounding{}, rounding{}},
		{"340282366920938463463374607431768211457/2", rounding{}, rounding{}},
	}
	for _, c := range cases {
		f := frac(c.text)
		if got := floor(f); got != c.floor {
			t.Errorf("Floor(%s) = %v, want %v", c.text, got, c.floor)
		}
		if got := ceil(f); got != c.ceil {
			t.Errorf("Ceil(%s) = %v, want %v", c.text, got, c.ceil)
		}
	}
}

// P2.12, P2.13: against another implementation
func TestFloorAndCeilOfManyFractions(t *testing.T) {
	source := newSource()
	all := edgeFractions()
	for _, bits := range []int{5, 60, 130} {
		for range 1000 {
			all = append(all, someFraction(source, bits))
		}
	}
	one := big.NewInt(1)
	for _, f := range all {
		r := toRat(f)
		below := new(big.Int).Div(r.Num(), r.Denom()) // rounds down, since the divisor is positive
		above := below
		if !r.IsInt() {
			above = new(big.Int).Add(below, one)
		}
		if got, want := floor(f), toRounding(below); got != want {
			t.Errorf("Floor(%v) = %v, want %v", f, got, want)
		}
		if got, want := ceil(f), toRounding(above); got != want {
			t.Errorf("Ceil(%v) = %v, want %v", f, got, want)
		}
	}
}

func toRounding(x *big.Int) rounding {
	if !x.IsInt64() {
		return rounding{}
	}
	return rounding{x.Int64(), true}
}
