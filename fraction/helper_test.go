package fraction_test

import (
	"math/big"
	"math/rand/v2"
	"slices"
	"strings"
	"testing"

	"saleroom/api"
)

// edgeParts are numerators and denominators at which carries, signs and conversions go wrong if they ever do.
var edgeParts = []string{
	"1", "2", "3", "4", "6", "7", "2147483648", "4294967295", "4294967296", "9223372036854775807", "9223372036854775808",
	"18446744073709551615", "18446744073709551616", "79228162514264337593543950335", "340282366920938463463374607431768211456",
}

// edgeFractions returns zero and all fractions of edge parts, with both signs.
func edgeFractions() []api.Frac {
	all := []api.Frac{frac("0")}
	for _, num := range edgeParts {
		for _, den := range edgeParts {
			text := num + "/" + den
			if r := rat(text); r.Num().String() == num {
				all = append(all, frac(text), frac("-"+text))
			}
		}
	}
	return all
}

// badFractions are not valid.
func badFractions() []api.Frac {
	return []api.Frac{
		{},
		{Neg: true},
		{Num: api.Nat{1}},
		{Neg: true, Num: api.Nat{1}},
		{Num: api.Nat{1}, Den: api.Nat{0}},
		{Num: api.Nat{1}, Den: api.Nat{0, 0, 0}},
		{Neg: true, Den: api.Nat{1}},
		{Neg: true, Num: api.Nat{}, Den: api.Nat{1}},
		{Den: api.Nat{2}},
		{Den: api.Nat{0, 1}},
		{Num: api.Nat{0}, Den: api.Nat{1}},
		{Num: api.Nat{1}, Den: api.Nat{1, 0}},
		{Num: api.Nat{1, 0}, Den: api.Nat{1}},
		{Neg: true, Num: api.Nat{3, 0, 0}, Den: api.Nat{2}},
		{Num: api.Nat{2}, Den: api.Nat{4}},
		{Num: api.Nat{2}, Den: api.Nat{2}},
		{Neg: true, Num: api.Nat{6}, Den: api.Nat{4}},
		{Num: api.Nat{0, 0, 3}, Den: api.Nat{0, 1}},
		{Num: api.Nat{0, 0}, Den: api.Nat{0}},
	}
}

// rat returns the fraction of the text in the form of another implementation.
func rat(text string) *big.Rat {
	r, is := new(big.Rat).SetString(text)
	if !is {
		panic(text)
	}
	return r
}

// frac returns the fraction of the text in lowest terms.
func frac(text string) api.Frac {
	return fromRat(rat(text))
}

// fracs returns the fractions of the texts.
func fracs(texts ...string) []api.Frac {
	var l []api.Frac
	for _, text := range texts {
		l = append(l, frac(text))
	}
	return l
}

func toRat(f api.Frac) *big.Rat {
	r := new(big.Rat).SetFrac(toBig(f.Num), toBig(f.Den))
	if f.Neg {
		r.Neg(r)
	}
	return r
}

func fromRat(r *big.Rat) api.Frac {
	return api.Frac{Neg: r.Sign() < 0, Num: fromBig(new(big.Int).Abs(r.Num())), Den: fromBig(r.Denom())}
}

func toBig(a api.Nat) *big.Int {
	x := new(big.Int)
	for _, digit := range slices.Backward(a) {
		x.Add(x.Lsh(x, 32), big.NewInt(int64(digit)))
	}
	return x
}

func fromBig(x *big.Int) api.Nat {
	var a api.Nat
	for low := new(big.Int); x.Sign() > 0; x = new(big.Int).Rsh(x, 32) {
		a = append(a, uint32(low.And(x, big.NewInt(0xffffffff)).Uint64()))
	}
	return a
}

// newSource returns a source of the same numbers in every run.
func newSource() *rand.Rand {
	return rand.New(rand.NewPCG(3, 4))
}

// someFraction returns a fraction whose parts have up to the given number of bits. Few bits give many equal parts.
func someFraction(source *rand.Rand, bits int) api.Frac {
	num, den := someBig(source, bits), someBig(source, bits)
	den.Add(den, big.NewInt(1))
	r := new(big.Rat).SetFrac(num, den)
	if source.IntN(2) == 0 {
		r.Neg(r)
	}
	return fromRat(r)
}

func someBig(source *rand.Rand, bits int) *big.Int {
	x := new(big.Int)
	for range source.IntN(bits + 1) {
		x.Add(x.Lsh(x, 1), big.NewInt(int64(source.IntN(2))))
	}
	return x
}

// equal compares field by field, so that a fraction that is not in lowest terms differs from one that is.
func equal(a, b api.Frac) bool {
	return a.Neg == b.Neg && slices.Equal(a.Num, b.Num) && slices.Equal(a.Den, b.Den)
}

// isNothing reports whether f is the zero value that comes with an error.
func isNothing(f api.Frac) bool {
	return equal(f, api.Frac{})
}

func expect(t *testing.T, what string, got, want api.Frac) {
	t.Helper()
	if !equal(got, want) {
		t.Fatalf("%s: got %v, want %v", what, got, want)
	}
}

// digits returns a number of n decimal digits: first and then the same digit again and again.
func digits(first, then string, n int) string {
	return first + strings.Repeat(then, n-1)
}
