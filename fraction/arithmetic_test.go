package fraction_test

import (
	"math/big"
	"testing"

	"saleroom/api"
	"saleroom/fraction"
)

// P2.7
func TestNeg(t *testing.T) {
	cases := []struct{ a, want string }{
		{"0", "0"}, {"1", "-1"}, {"-1", "1"}, {"3/4", "-3/4"}, {"-3/4", "3/4"}, {"-18446744073709551616", "18446744073709551616"},
	}
	for _, c := range cases {
		expect(t, "Neg of "+c.a, fraction.Neg(frac(c.a)), frac(c.want))
	}
}

// P2.8 and example 1 of the chapter
func TestAdd(t *testing.T) {
	cases := []struct{ a, b, want string }{
		{"1/3", "1/6", "1/2"},
		{"0", "0", "0"},
		{"0", "-5/7", "-5/7"},
		{"2", "3", "5"},
		{"2", "-3", "-1"},
		{"3", "-2", "1"},
		{"-2", "-3", "-5"},
		{"1/2", "-1/2", "0"},
		{"1/2", "1/2", "1"},
		{"1/2", "1/3", "5/6"},
		{"1/6", "-1/10", "1/15"},
		{"-1/6", "-1/10", "-4/15"},
		{"1/4", "-5/4", "-1"},
		{"5/12", "7/12", "1"},
		{"1", "-1/3", "2/3"},
		{"18446744073709551615", "1", "18446744073709551616"},
		{"18446744073709551616", "-1", "18446744073709551615"},
		{"1/18446744073709551616", "-1/18446744073709551616", "0"},
	}
	for _, c := range cases {
		expect(t, c.a+" + "+c.b, fraction.Add(frac(c.a), frac(c.b)), frac(c.want))
		expect(t, c.b+" + "+c.a, fraction.Add(frac(c.b), frac(c.a)), frac(c.want))
	}
}

// P2.9
func TestSub(t *testing.T) {
	cases := []struct{ a, b, want string }{
		{"0", "0", "0"},
		{"0", "5/7", "-5/7"},
		{"0", "-5/7", "5/7"},
		{"5/7", "0", "5/7"},
		{"3", "5", "-2"},
		{"5", "3", "2"},
		{"-3", "5", "-8"},
		{"3", "-5", "8"},
		{"-3", "-5", "2"},
		{"1/2", "1/3", "1/6"},
		{"1/3", "1/2", "-1/6"},
		{"-7/9", "-7/9", "0"},
		{"1", "18446744073709551616", "-18446744073709551615"},
	}
	for _, c := range cases {
		expect(t, c.a+" - "+c.b, fraction.Sub(frac(c.a), frac(c.b)), frac(c.want))
	}
}

// P2.10
func TestMul(t *testing.T) {
	cases := []struct{ a, b, want string }{
		{"2/3", "3/4", "1/2"},
		{"0", "0", "0"},
		{"0", "-3/4", "0"},
		{"1", "-3/4", "-3/4"},
		{"-1", "-3/4", "3/4"},
		{"2/3", "3/2", "1"},
		{"-2/3", "3/2", "-1"},
		{"2/3", "5/7", "10/21"},
		{"6/35", "14/9", "4/15"},
		{"18446744073709551616", "1/4294967296", "4294967296"},
		{"4294967295", "4294967295", "18446744065119617025"},
	}
	for _, c := range cases {
		expect(t, c.a+" * "+c.b, fraction.Mul(frac(c.a), frac(c.b)), frac(c.want))
		expect(t, c.b+" * "+c.a, fraction.Mul(frac(c.b), frac(c.a)), frac(c.want))
	}
}

// P2.11
func TestDiv(t *testing.T) {
	cases := []struct{ a, b, want string }{
		{"1/2", "-1/4", "-2"},
		{"0", "5", "0"},
		{"0", "-5/3", "0"},
		{"1", "3", "1/3"},
		{"1", "-3", "-1/3"},
		{"-6", "-4", "3/2"},
		{"7/9", "7/9", "1"},
		{"2/3", "4/9", "3/2"},
		{"1", "1/18446744073709551616", "18446744073709551616"},
		{"18446744073709551616", "18446744073709551616", "1"},
	}
	for _, c := range cases {
		got, e := fraction.Div(frac(c.a), frac(c.b))
		if e != api.OK {
			t.Fatalf("%s divided by %s: %v", c.a, c.b, e)
		}
		expect(t, c.a+" divided by "+c.b, got, frac(c.want))
	}
}

// P2.11
func TestDivByZero(t *testing.T) {
	for _, a := range append(edgeFractions()[:9], frac("-18446744073709551616/3")) {
		for _, zero := range []api.Frac{frac("0"), {Num: api.Nat{}, Den: api.Nat{1}}} {
			if f, e := fraction.Div(a, zero); e != api.ErrDivide || !isNothing(f) {
				t.Errorf("%v divided by zero: %v, %v", a, f, e)
			}
		}
	}
}

// P2.7 to P2.11: against another implementation
func TestArithmeticOfEdgeFractions(t *testing.T) {
	all := edgeFractions()
	for _, a := range all {
		for _, b := range all {
			compareArithmetic(t, a, b)
		}
	}
}

func TestArithmeticOfManyFractions(t *testing.T) {
	source := newSource()
	for _, bits := range []int{3, 6, 31, 64, 300} {
		for range 1000 {
			compareArithmetic(t, someFraction(source, bits), someFraction(source, bits))
		}
	}
}

func compareArithmetic(t *testing.T, a, b api.Frac) {
	t.Helper()
	x, y := toRat(a), toRat(b)
	expect(t, "Neg", fraction.Neg(a), fromRat(new(big.Rat).Neg(x)))
	expect(t, "Add", fraction.Add(a, b), fromRat(new(big.Rat).Add(x, y)))
	expect(t, "Sub", fraction.Sub(a, b), fromRat(new(big.Rat).Sub(x, y)))
	expect(t, "Mul", fraction.Mul(a, b), fromRat(new(big.Rat).Mul(x, y)))
	if y.Sign() != 0 {
		got, e := fraction.Div(a, b)
		if e != api.OK {
			t.Fatalf("%v divided by %v: %v", a, b, e)
		}
		expect(t, "Div", got, fromRat(new(big.Rat).Quo(x, y)))
	}
}

// P2.14
func TestSum(t *testing.T) {
	cases := []struct {
		l    []string
		want string
	}{
		{nil, "0"},
		{[]string{"0"}, "0"},
		{[]string{"-3/4"}, "-3/4"},
		{[]string{"1/2", "1/3"}, "5/6"},
		{[]string{"1/2", "1/3", "1/6"}, "1"},
		{[]string{"1/2", "-1/3", "-1/6"}, "0"},
		{[]string{"1", "0", "2", "0", "3"}, "6"},
		{[]string{"18446744073709551615", "1/2", "1/2"}, "18446744073709551616"},
	}
	for _, c := range cases {
		expect(t, "Sum", fraction.Sum(fracs(c.l...)...), frac(c.want))
	}
	expect(t, "Sum of nothing", fraction.Sum(), frac("0"))
	expect(t, "Sum of an empty list", fraction.Sum([]api.Frac{}...), frac("0"))
	expect(t, "Sum of two arguments", fraction.Sum(frac("1"), frac("2")), frac("3"))
}

// P2.14: 1/1*2 + 1/2*3 + ... + 1/n*(n+1) is n/(n+1)
func TestSumOfManyFractions(t *testing.T) {
	const n = 300
	var l []api.Frac
	for i := range int64(n) {
		f, e := fraction.New(1, (i+1)*(i+2))
		if e != api.OK {
			t.Fatal(e)
		}
		l = append(l, f)
	}
	want, _ := fraction.New(n, n+1)
	expect(t, "Sum", fraction.Sum(l...), want)
}

// P2.15 and example 2 of the chapter
func TestDot(t *testing.T) {
	cases := []struct {
		a, b []string
		want string
	}{
		{[]string{"1", "2", "3"}, []string{"1/2", "1/4"}, "1"},
		{[]string{"1/2", "1/4"}, []string{"1", "2", "3"}, "1"},
		{nil, nil, "0"},
		{nil, []string{"1"}, "0"},
		{[]string{"1"}, nil, "0"},
		{[]string{"2/3"}, []string{"-3/2"}, "-1"},
		{[]string{"1", "1"}, []string{"5/7", "-5/7"}, "0"},
		{[]string{"0", "1/3", "0"}, []string{"9", "6", "7"}, "2"},
		{[]string{"1", "2", "3", "4"}, []string{"1", "2", "3", "4"}, "30"},
	}
	for _, c := range cases {
		expect(t, "Dot", fraction.Dot(fracs(c.a...), fracs(c.b...)), frac(c.want))
	}
	expect(t, "Dot of empty lists", fraction.Dot([]api.Frac{}, []api.Frac{}), frac("0"))
}

// P2.14, P2.15: against another implementation
func TestSumAndDotOfManyFractions(t *testing.T) {
	source := newSource()
	for range 300 {
		a, b := make([]api.Frac, source.IntN(12)), make([]api.Frac, source.IntN(12))
		sum, dot := new(big.Rat), new(big.Rat)
		for i := range a {
			a[i] = someFraction(source, 40)
			sum.Add(sum, toRat(a[i]))
		}
		for i := range b {
			b[i] = someFraction(source, 40)
		}
		for i := range min(len(a), len(b)) {
			dot.Add(dot, new(big.Rat).Mul(toRat(a[i]), toRat(b[i])))
		}
		expect(t, "Sum", fraction.Sum(a...), fromRat(sum))
		expect(t, "Dot", fraction.Dot(a, b), fromRat(dot))
	}
}

// P2.18
func TestLaws(t *testing.T) {
	source := newSource()
	for _, bits := range []int{4, 40, 150} {
		for range 500 {
			a, b, c := someFraction(source, bits), someFraction(source, bits), someFraction(source, bits)
			checkSums(t, a, b, c)
			checkProducts(t, a, b, c)
			checkOrder(t, a, b, c)
		}
	}
}

func checkSums(t *testing.T, a, b, c api.Frac) {
	t.Helper()
	sum := fraction.Add(a, b)
	expect(t, "a + b", sum, fraction.Add(b, a))
	expect(t, "(a + b) + c", fraction.Add(sum, c), fraction.Add(a, fraction.Add(b, c)))
	expect(t, "a + b - b", fraction.Sub(sum, b), a)
	expect(t, "a - b + b", fraction.Add(fraction.Sub(a, b), b), a)
}

func checkProducts(t *testing.T, a, b, c api.Frac) {
	t.Helper()
	product := fraction.Mul(a, b)
	expect(t, "a * b", product, fraction.Mul(b, a))
	expect(t, "(a * b) * c", fraction.Mul(product, c), fraction.Mul(a, fraction.Mul(b, c)))
	expect(t, "a * (b + c)", fraction.Mul(a, fraction.Add(b, c)), fraction.Add(product, fraction.Mul(a, c)))
	if fraction.Sign(b) != 0 {
		back, e := fraction.Div(product, b)
		if e != api.OK {
			t.Fatal(e)
		}
		expect(t, "a * b / b", back, a)
	}
}

func checkOrder(t *testing.T, a, b, c api.Frac) {
	t.Helper()
	order := fraction.Cmp(a, b)
	if fraction.Cmp(b, a) != -order || fraction.Cmp(a, a) != 0 || (order == 0) != equal(a, b) {
		t.Fatalf("Cmp(%v, %v) = %d", a, b, order)
	}
	if order <= 0 && fraction.Cmp(b, c) <= 0 && fraction.Cmp(a, c) > 0 {
		t.Fatalf("Cmp is not transitive for %v, %v and %v", a, b, c)
	}
	if got := fraction.Cmp(fraction.Add(a, c), fraction.Add(b, c)); got != order {
		t.Fatalf("Cmp(%v, %v) = %d, and %d after adding %v", a, b, order, got, c)
	}
	if got := fraction.Sign(fraction.Sub(a, b)); got != order {
		t.Fatalf("Cmp(%v, %v) = %d, and the sign of the difference is %d", a, b, order, got)
	}
}
