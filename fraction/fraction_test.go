package fraction_test

import (
	"math"
	"math/big"
	"testing"

	"saleroom/api"
	"saleroom/fraction"
)

// P2.1
func TestValid(t *testing.T) {
	for _, f := range edgeFractions() {
		if !fraction.Valid(f) {
			t.Errorf("%v is valid", f)
		}
	}
	for _, f := range []api.Frac{{Num: api.Nat{}, Den: api.Nat{1}}, {Num: nil, Den: api.Nat{1}}} {
		if !fraction.Valid(f) {
			t.Errorf("zero as %v is valid", f)
		}
	}
	for _, f := range badFractions() {
		if fraction.Valid(f) {
			t.Errorf("%v is not valid", f)
		}
	}
}

// P2.1: a common factor of more than one digit
func TestValidOfLongCommonFactor(t *testing.T) {
	common, num, den := someLongPrime(), big.NewInt(35), big.NewInt(1<<40)
	f := api.Frac{Num: fromBig(num), Den: fromBig(den)}
	if !fraction.Valid(f) {
		t.Errorf("%v is valid", f)
	}
	f = api.Frac{Num: fromBig(num.Mul(num, common)), Den: fromBig(den.Mul(den, common))}
	if fraction.Valid(f) {
		t.Errorf("%v is not valid", f)
	}
}

// someLongPrime returns 2^89 - 1, a prime number of three digits.
func someLongPrime() *big.Int {
	p := new(big.Int).Lsh(big.NewInt(1), 89)
	return p.Sub(p, big.NewInt(1))
}

// P2.2
func TestNew(t *testing.T) {
	cases := []struct {
		num, den int64
		want     string
	}{
		{6, -4, "-3/2"},
		{6, 4, "3/2"},
		{-6, 4, "-3/2"},
		{-6, -4, "3/2"},
		{3, 1, "3"},
		{-3, -1, "3"},
		{1, 3, "1/3"},
		{0, 1, "0"},
		{0, 7, "0"},
		{0, -7, "0"},
		{0, math.MinInt64, "0"},
		{math.MaxInt64, 1, "9223372036854775807"},
		{1, math.MaxInt64, "1/9223372036854775807"},
		{math.MinInt64, 1, "-9223372036854775808"},
		{math.MinInt64, -1, "9223372036854775808"},
		{1, math.MinInt64, "-1/9223372036854775808"},
		{-1, math.MinInt64, "1/9223372036854775808"},
		{math.MinInt64, math.MinInt64, "1"},
		{math.MinInt64, math.MaxInt64, "-9223372036854775808/9223372036854775807"},
		{math.MinInt64, 1 << 62, "-2"},
	}
	for _, c := range cases {
		got, e := fraction.New(c.num, c.den)
		if e != api.OK || !equal(got, frac(c.want)) {
			t.Errorf("New(%d, %d) = %v, %v, want %s", c.num, c.den, got, e, c.want)
		}
	}
}

// P2.2
func TestNewWithZeroDenominator(t *testing.T) {
	for _, num := range []int64{0, 1, -1, math.MinInt64, math.MaxInt64} {
		if f, e := fraction.New(num, 0); e != api.ErrDivide || !isNothing(f) {
			t.Errorf("New(%d, 0) = %v, %v", num, f, e)
		}
	}
}

// P2.3
func TestMake(t *testing.T) {
	cases := []struct {
		neg      bool
		num, den api.Nat
		want     string
	}{
		{true, api.Nat{6}, api.Nat{4}, "-3/2"},
		{false, api.Nat{6}, api.Nat{4}, "3/2"},
		{false, api.Nat{4}, api.Nat{2}, "2"},
		{true, api.Nat{5}, api.Nat{5}, "-1"},
		{false, api.Nat{5}, api.Nat{1}, "5"},
		{false, nil, api.Nat{5}, "0"},
		{true, nil, api.Nat{5}, "0"},
		{true, api.Nat{}, api.Nat{1}, "0"},
		{true, nil, api.Nat{0, 0, 1}, "0"},
		{false, api.Nat{0, 1}, api.Nat{0, 0, 1}, "1/4294967296"},
		{true, api.Nat{0, 0, 3}, api.Nat{0, 6}, "-2147483648"},
	}
	for _, c := range cases {
		got, e := fraction.Make(c.neg, c.num, c.den)
		if e != api.OK || !equal(got, frac(c.want)) {
			t.Errorf("Make(%t, %v, %v) = %v, %v, want %s", c.neg, c.num, c.den, got, e, c.want)
		}
	}
}

// P2.3
func TestMakeWithZeroDenominator(t *testing.T) {
	for _, neg := range []bool{false, true} {
		for _, num := range []api.Nat{nil, {1}, {1, 2, 3}} {
			for _, den := range []api.Nat{nil, {}} {
				if f, e := fraction.Make(neg, num, den); e != api.ErrDivide || !isNothing(f) {
					t.Errorf("Make(%t, %v, %v) = %v, %v", neg, num, den, f, e)
				}
			}
		}
	}
}

// P2.3: against another implementation
func TestMakeOfManyNumbers(t *testing.T) {
	source := newSource()
	for i := range 2000 {
		num, den, common := someBig(source, 300), someBig(source, 300), someBig(source, 200)
		if common.Sign() == 0 || den.Sign() == 0 {
			continue
		}
		num.Mul(num, common)
		den.Mul(den, common)
		neg := i%2 == 0
		got, e := fraction.Make(neg, fromBig(num), fromBig(den))
		want := new(big.Rat).SetFrac(num, den)
		if neg {
			want.Neg(want)
		}
		if e != api.OK {
			t.Fatalf("Make(%t, %v, %v): %v", neg, num, den, e)
		}
		expect(t, "Make", got, fromRat(want))
	}
}

// P2.4
func TestFromInt(t *testing.T) {
	cases := []struct {
		n    int64
		want string
	}{
		{0, "0"},
		{1, "1"},
		{-1, "-1"},
		{4294967296, "4294967296"},
		{-4294967296, "-4294967296"},
		{math.MaxInt64, "9223372036854775807"},
		{math.MinInt64, "-9223372036854775808"},
		{math.MinInt64 + 1, "-9223372036854775807"},
	}
	for _, c := range cases {
		expect(t, "FromInt", fraction.FromInt(c.n), frac(c.want))
	}
}

// P2.5
func TestCmp(t *testing.T) {
	ascending := fracs("-18446744073709551616", "-3", "-3/2", "-1", "-18446744073709551615/18446744073709551616", "-1/2", "-1/3",
		"-1/18446744073709551616", "0", "1/18446744073709551616", "1/3", "1/2", "18446744073709551615/18446744073709551616", "1",
		"18446744073709551616/18446744073709551615", "3/2", "2", "3", "18446744073709551616")
	for i, a := range ascending {
		for j, b := range ascending {
			want := 0
			if i < j {
				want = -1
			} else if i > j {
				want = 1
			}
			if got := fraction.Cmp(a, b); got != want {
				t.Errorf("Cmp(%v, %v) = %d, want %d", a, b, got, want)
			}
		}
	}
}

// P2.5: against another implementation
func TestCmpOfManyFractions(t *testing.T) {
	source := newSource()
	for _, bits := range []int{3, 60, 200} {
		for range 2000 {
			a, b := someFraction(source, bits), someFraction(source, bits)
			if got, want := fraction.Cmp(a, b), toRat(a).Cmp(toRat(b)); got != want {
				t.Fatalf("Cmp(%v, %v) = %d, want %d", a, b, got, want)
			}
		}
	}
}

// P2.6
func TestSign(t *testing.T) {
	cases := []struct {
		text string
		want int
	}{
		{"0", 0}, {"1", 1}, {"-1", -1}, {"1/3", 1}, {"-1/3", -1}, {"18446744073709551616/7", 1}, {"-18446744073709551616/7", -1},
	}
	for _, c := range cases {
		if got := fraction.Sign(frac(c.text)); got != c.want {
			t.Errorf("Sign(%s) = %d, want %d", c.text, got, c.want)
		}
	}
	if fraction.Sign(api.Frac{Num: api.Nat{}, Den: api.Nat{1}}) != 0 {
		t.Error("Sign of zero with an empty list")
	}
}
