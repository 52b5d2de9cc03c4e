package amount_test

import (
	"math"
	"math/big"
	"slices"
	"strconv"
	"strings"
	"testing"

	"saleroom/amount"
	"saleroom/api"
	"saleroom/fraction"
)

// P5.1
func TestCheck(t *testing.T) {
	for _, v := range []int64{0, 1, 2, 255, 256, 65536, most - 1, most} {
		if e := amount.Check(v); e != api.OK {
			t.Errorf("Check(%d) = %v", v, e)
		}
	}
	for _, v := range []int64{-1, -2, -most, most + 1, 2 * most, 1 << 32, 1<<32 + 1, -1 << 32, math.MaxInt64, math.MinInt64} {
		if e := amount.Check(v); e != api.ErrRange {
			t.Errorf("Check(%d) = %v", v, e)
		}
	}
}

// P5.2: the example of the chapter, and numbers that are no amounts
func TestFormat(t *testing.T) {
	cases := []struct {
		v    int64
		want string
	}{
		{-5, "-5"},
		{0, "0"},
		{7, "7"},
		{10, "10"},
		{-10, "-10"},
		{123456, "123456"},
		{most, "1000000"},
		{most + 1, "1000001"},
		{-most, "-1000000"},
		{math.MaxInt64, "9223372036854775807"},
		{math.MinInt64, "-9223372036854775808"},
	}
	for _, c := range cases {
		if got := amount.Format(c.v); got != c.want {
			t.Errorf("Format(%d) = %q", c.v, got)
		}
	}
}

// P5.2: against another implementation
func TestFormatOfManyNumbers(t *testing.T) {
	source := newSource()
	for i := range 5000 {
		v := int64(source.Uint64()) >> (i % 64)
		if got, want := amount.Format(v), big.NewInt(v).String(); got != want {
			t.Fatalf("Format(%s) = %q", want, got)
		}
	}
}

// P5.2, P5.3: every amount is parsed from its own text.
func TestEveryAmount(t *testing.T) {
	for v := range int64(most + 1) {
		text := amount.Format(v)
		if got, e := amount.Parse(text); got != v || e != api.OK {
			t.Fatalf("Parse(%q) = %d, %v", text, got, e)
		}
	}
}

func expectParse(t *testing.T, s string, want int64, wantError api.Errno) {
	t.Helper()
	if got, e := amount.Parse(s); got != want || e != wantError {
		t.Fatalf("Parse(%q) = %d, %v, want %d, %v", s, got, e, want, wantError)
	}
}

// P5.3: texts without a number, the example of the chapter among them
func TestParseFormatErrors(t *testing.T) {
	expectParse(t, "", 0, api.ErrShort)
	for _, s := range []string{
		"007", "00", "01", "000000", "0000001", "01000000", "-0", "-1", "+1", "--1", "-", "+", "1-", "5+", " 1", "1 ", "1\n",
		"\n", "\t1", " ", "1 2", "x", "1x", "x1", "0x", "0x1", "0b1", "1e3", "1.0", "1.", ".5", "1,000", "1_000", "1/1", "5:", "/", ":",
		"\x00", "1\x00", "\xff", "1\xff2", "\u0663", "\uff11", "\u00b2", "1\u0661", "Inf", "NaN",
		"9223372036854775808x", "x9223372036854775808", "1000001 ", "-1000001", "01000001", strings.Repeat("9", 5000) + "x",
		strings.Repeat("9", 5000) + "-", strings.Repeat("0", 5000), "0" + strings.Repeat("9", 30),
	} {
		expectParse(t, s, 0, api.ErrFormat)
	}
}

// P5.3: numbers above the limit, those among them that are small modulo 2^32 or 2^64
func TestParseRangeErrors(t *testing.T) {
	expectParse(t, "1000000", most, api.OK)
	for _, s := range []string{
		"1000001", "1000002", "1000010", "1100000", "9999999", "10000000", "10000001", "4294967296", "4294967297", "9223372036854775807",
		"9223372036854775808", "18446744073709551615", "18446744073709551616", "18446744073709551621", "184467440737095516160",
		"340282366920938463463374607431768211456", "1" + strings.Repeat("0", 64), "1" + strings.Repeat("0", 5000),
		strings.Repeat("9", 5000), strings.Repeat("1234567890", 100000),
	} {
		expectParse(t, s, 0, api.ErrRange)
	}
	for number := uint64(most + 1); number < 1<<60; number += number/3 + 7 {
		expectParse(t, strconv.FormatUint(number, 10), 0, api.ErrRange)
	}
}

// P5.3: of all bytes, at the beginning, in the middle and at the end of a text, those are accepted that are digits.
func TestParseOfEveryByte(t *testing.T) {
	for i := range 256 {
		s := string([]byte{byte(i)})
		if i < '0' || i > '9' {
			for _, text := range []string{s, s + "5", "5" + s, "5" + s + "6", "1000000" + s, "1000001" + s, "0" + s} {
				expectParse(t, text, 0, api.ErrFormat)
			}
			continue
		}
		digit := int64(i - '0')
		expectParse(t, s, digit, api.OK)
		expectParse(t, "5"+s, 50+digit, api.OK)
		expectParse(t, "5"+s+"6", 506+10*digit, api.OK)
		expectParse(t, "1000000"+s, 0, api.ErrRange)
		expectParse(t, "0"+s, 0, api.ErrFormat)
	}
}

// P5.4: the example of the chapter, and fractions at both limits
func TestUp(t *testing.T) {
	cases := []struct {
		f    string
		want int64
	}{
		{"7/2", 4},
		{"0", 0},
		{"1", 1},
		{"2", 2},
		{"1/2", 1},
		{"1/3", 1},
		{"2/3", 1},
		{"4/3", 2},
		{"1/18446744073709551616", 1},
		{"18446744073709551615/18446744073709551616", 1},
		{"18446744073709551617/18446744073709551616", 2},
		{"1999999/2", most},
		{"999999", most - 1},
		{"1000000", most},
		{"2999999/3", most},
		{"2999998/3", most},
		{"2999996/3", most - 1},
	}
	for _, c := range cases {
		if got, e := amount.Up(frac(c.f)); got != c.want || e != api.OK {
			t.Errorf("Up(%s) = %d, %v, want %d", c.f, got, e, c.want)
		}
	}
}

// P5.4: negative fractions, those above -1 among them, and fractions above the limit
func TestUpErrors(t *testing.T) {
	for _, text := range []string{
		"-1", "-1/2", "-1/3", "-2/3", "-3/2", "-1000000", "-1/18446744073709551616", "-9223372036854775808", "-9223372036854775809",
		"-18446744073709551616", "-18446744073709551616/3", "1000001", "2000001/2", "3000001/3", "3000002/3",
		"1000000000000000000001/1000000000000000", "4294967296", "4294967297", "9223372036854775807", "9223372036854775808",
		"9223372036854775809", "18446744073709551616", "18446744073709551617", "36893488147419103233/2", "340282366920938463463374607431768211456",
	} {
		if got, e := amount.Up(frac(text)); got != 0 || e != api.ErrRange {
			t.Errorf("Up(%s) = %d, %v", text, got, e)
		}
	}
}

// P5.4: against the definition: the integer is at least the fraction, and the one below is not.
func TestUpOfManyFractions(t *testing.T) {
	source := newSource()
	for range 20000 {
		den := source.Int64N(1<<source.IntN(40)) + 1
		num := source.Int64N(most+2)*den - source.Int64N(den)
		f, _ := fraction.New(num, den)
		got, e := amount.Up(f)
		if num < 0 || num > most*den {
			if got != 0 || e != api.ErrRange {
				t.Fatalf("Up(%d/%d) = %d, %v", num, den, got, e)
			}
			continue
		}
		if e != api.OK || got*den < num || (got-1)*den >= num {
			t.Fatalf("Up(%d/%d) = %d, %v", num, den, got, e)
		}
	}
}

// R3
func TestUpLeavesItsArgument(t *testing.T) {
	num, den := api.Nat{7, 77, 77}, api.Nat{2, 77}
	if got, e := amount.Up(api.Frac{Num: num[:1], Den: den[:1]}); got != 4 || e != api.OK {
		t.Errorf("Up = %d, %v", got, e)
	}
	if !slices.Equal(num, api.Nat{7, 77, 77}) || !slices.Equal(den, api.Nat{2, 77}) {
		t.Errorf("the argument became %v / %v", num, den)
	}
}

// R1, R5
func TestUpOfInvalidFractions(t *testing.T) {
	for _, f := range []api.Frac{
		{}, {Neg: true}, {Num: api.Nat{1}}, {Neg: true, Den: api.Nat{1}}, {Num: api.Nat{1}, Den: api.Nat{0}}, {Num: api.Nat{2}, Den: api.Nat{4}},
		{Num: api.Nat{0, 0}, Den: api.Nat{0, 0}}, {Num: api.Nat{1, 0}, Den: api.Nat{3, 0}},
	} {
		amount.Up(f)
	}
}
