package natural

import (
	"math/big"
	"testing"

	"saleroom/api"
)

// P1.9
func TestDivMod(t *testing.T) {
	cases := []struct{ a, b, q, r string }{
		{"0", "1", "0", "0"},
		{"0", "340282366920938463463374607431768211456", "0", "0"},
		{"6", "7", "0", "6"},
		{"7", "7", "1", "0"},
		{"100", "7", "14", "2"},
		{"1000000000000000000000", "7", "142857142857142857142", "6"},
		{"1000000000000000000000", "1", "1000000000000000000000", "0"},
		{"1000000000000000000000", "1000000000000000000001", "0", "1000000000000000000000"},
		{"1000000000000000000001", "1000000000000000000000", "1", "1"},
		{"18446744073709551616", "4294967296", "4294967296", "0"},
		{"18446744073709551616", "18446744073709551615", "1", "1"},
		{"7", "1000000000000000000000", "0", "7"},
	}
	for _, c := range cases {
		q, r, e := DivMod(parse(t, c.a), parse(t, c.b))
		if e != api.OK || Format(q) != c.q || Format(r) != c.r {
			t.Errorf("DivMod(%s, %s) = %s, %s, %v", c.a, c.b, Format(q), Format(r), e)
		}
	}
}

// P1.9
func TestDivModByZero(t *testing.T) {
	for _, a := range []api.Nat{nil, {1}, {1, 2, 3}} {
		for _, zero := range []api.Nat{nil, {}} {
			if q, r, e := DivMod(a, zero); len(q) != 0 || len(r) != 0 || e != api.ErrDivide {
				t.Errorf("DivMod(%v, zero) = %v, %v, %v", a, q, r, e)
			}
		}
	}
}

// P1.9: here the estimate of a digit is too great although it was corrected by the second digit of the divisor.
func TestDivModWithWrongEstimate(t *testing.T) {
	cases := []struct{ a, b, q, r api.Nat }{
		{api.Nat{0, 0, 0x80000000, 0x7fffffff}, api.Nat{1, 0, 0x80000000}, api.Nat{0xfffffffe}, api.Nat{2, 0xffffffff, 0x7fffffff}},
		{api.Nat{3, 0, 0x80000000}, api.Nat{1, 0, 0x20000000}, api.Nat{3}, api.Nat{0, 0, 0x20000000}},
	}
	for _, c := range cases {
		q, r, e := DivMod(c.a, c.b)
		if e != api.OK {
			t.Fatal(e)
		}
		expect(t, "quotient", q, c.q)
		expect(t, "remainder", r, c.r)
	}
}

// P1.9, P1.10: against another implementation
func TestDivisionOfEdgeNumbers(t *testing.T) {
	for _, b := range edgeNumbers(3)[1:] {
		for _, a := range edgeNumbers(4) {
			compareDivMod(t, a, b)
		}
	}
}

func TestDivisionOfLongNumbers(t *testing.T) {
	source := newSource()
	for range 3000 {
		a, b := someNumber(source, 40), someNumber(source, 20)
		if len(b) > 0 {
			compareDivMod(t, a, b)
			compareDivMod(t, b, append(a, 1))
			// A product plus or minus a little is where a digit of the quotient is most easily off by 1.
			product := Mul(a, b)
			compareDivMod(t, product, b)
			compareDivMod(t, Add(product, FromUint(1)), b)
			if less, is := Sub(product, FromUint(1)); is {
				compareDivMod(t, less, b)
			}
		}
	}
}

func compareDivMod(t *testing.T, a, b api.Nat) {
	t.Helper()
	q, r, e := DivMod(a, b)
	if e != api.OK {
		t.Fatalf("DivMod(%v, %v): %v", a, b, e)
	}
	x, y := new(big.Int).DivMod(toBig(a), toBig(b), new(big.Int))
	if toBig(q).Cmp(x) != 0 || toBig(r).Cmp(y) != 0 || !Valid(q) || !Valid(r) {
		t.Fatalf("DivMod(%v, %v) = %v, %v", a, b, q, r)
	}
	if Cmp(r, b) >= 0 || Cmp(Add(Mul(q, b), r), a) != 0 {
		t.Fatalf("DivMod(%v, %v): %v, %v does not give the dividend", a, b, q, r)
	}
}

// P1.10
func TestGCD(t *testing.T) {
	cases := []struct{ a, b, want string }{
		{"0", "0", "0"},
		{"0", "5", "5"},
		{"0", "18446744073709551616", "18446744073709551616"},
		{"1", "18446744073709551616", "1"},
		{"12", "18", "6"},
		{"17", "31", "1"},
		{"48", "48", "48"},
		{"4294967296", "18446744073709551616", "4294967296"},
		{"1000000000000000000000", "600000000000000000000", "200000000000000000000"},
		{"1000000000000000000000", "35", "5"},
	}
	for _, c := range cases {
		a, b, want := parse(t, c.a), parse(t, c.b), parse(t, c.want)
		expect(t, "GCD", GCD(a, b), want)
		expect(t, "GCD", GCD(b, a), want)
	}
}

// P1.10: neighbours among the Fibonacci numbers take the most divisions.
func TestGCDOfFibonacciNumbers(t *testing.T) {
	a, b, factor := FromUint(1), FromUint(1), api.Nat{0xfffffffb, 0xffffffff, 3}
	for range 800 {
		a, b = b, Add(a, b)
	}
	expect(t, "GCD", GCD(a, b), FromUint(1))
	expect(t, "GCD", GCD(Mul(a, factor), Mul(b, factor)), factor)
}

func TestGCDOfManyNumbers(t *testing.T) {
	for _, a := range edgeNumbers(2) {
		for _, b := range edgeNumbers(3) {
			compareGCD(t, a, b)
		}
	}
	source := newSource()
	for range 1000 {
		a, b, factor := someNumber(source, 12), someNumber(source, 12), someNumber(source, 6)
		compareGCD(t, Mul(a, factor), Mul(b, factor))
	}
}

func compareGCD(t *testing.T, a, b api.Nat) {
	t.Helper()
	want := fromBig(new(big.Int).GCD(nil, nil, toBig(a), toBig(b)))
	expect(t, "GCD", GCD(a, b), want)
	expect(t, "GCD", GCD(b, a), want)
}
