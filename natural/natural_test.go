package natural

import (
	"math"
	"math/big"
	"slices"
	"testing"

	"saleroom/api"
)

// P1.1, R1
func TestInvalidListsAreSafe(t *testing.T) {
	others := append(edgeNumbers(2), power(200))
	for _, a := range invalid {
		useAlone(t, a)
		for _, b := range slices.Concat(invalid, others) {
			useTogether(t, a, b)
			useTogether(t, b, a)
		}
	}
}

func useAlone(t *testing.T, a api.Nat) {
	t.Helper()
	if Valid(a) {
		t.Errorf("Valid(%v)", a)
	}
	Uint(a)
	Bits(a)
	Format(a)
}

func useTogether(t *testing.T, a, b api.Nat) {
	t.Helper()
	Cmp(a, b)
	difference, _ := Sub(a, b)
	q, r, _ := DivMod(a, b)
	for _, result := range []api.Nat{Add(a, b), difference, Mul(a, b), q, r, GCD(a, b)} {
		if !Valid(result) {
			t.Errorf("%v and %v give %v, which is not valid", a, b, result)
		}
	}
}

// P1.2
func TestValid(t *testing.T) {
	for _, a := range []api.Nat{nil, {}, {1}, {0xffffffff}, {0, 1}, {0, 0, 1}} {
		if !Valid(a) {
			t.Errorf("%v is valid", a)
		}
	}
	for _, a := range []api.Nat{{0}, {1, 0}, {0, 0}, {0, 1, 0}} {
		if Valid(a) {
			t.Errorf("%v is not valid", a)
		}
	}
}

// P1.3
func TestFromUint(t *testing.T) {
	cases := []struct {
		x    uint64
		want api.Nat
	}{
		{0, nil},
		{1, api.Nat{1}},
		{0xffffffff, api.Nat{0xffffffff}},
		{1 << 32, api.Nat{0, 1}},
		{4294967297, api.Nat{1, 1}},
		{math.MaxUint64, api.Nat{0xffffffff, 0xffffffff}},
	}
	for _, c := range cases {
		expect(t, "FromUint", FromUint(c.x), c.want)
	}
}

// P1.4
func TestUint(t *testing.T) {
	cases := []struct {
		a    api.Nat
		want uint64
		fits bool
	}{
		{nil, 0, true},
		{api.Nat{}, 0, true},
		{api.Nat{7}, 7, true},
		{api.Nat{0, 1}, 1 << 32, true},
		{api.Nat{2, 3}, 3<<32 + 2, true},
		{api.Nat{0xffffffff, 0xffffffff}, math.MaxUint64, true},
		{api.Nat{0, 0, 1}, 0, false},
		{api.Nat{5, 6, 7}, 0, false},
		{power(320), 0, false},
	}
	for _, c := range cases {
		if x, fits := Uint(c.a); x != c.want || fits != c.fits {
			t.Errorf("Uint(%v) = %d, %t", c.a, x, fits)
		}
	}
}

// P1.5
func TestCmp(t *testing.T) {
	ascending := []api.Nat{nil, {1}, {2}, {4294967295}, {0, 1}, {1, 1}, {0, 2}, {0xffffffff, 0xffffffff}, {0, 0, 1}, {1, 0, 1}, {0, 1, 1}}
	for i, a := range ascending {
		for j, b := range ascending {
			want := 0
			if i < j {
				want = -1
			} else if i > j {
				want = 1
			}
			if got := Cmp(a, slices.Clone(b)); got != want {
				t.Errorf("Cmp(%v, %v) = %d", a, b, got)
			}
		}
	}
}

// P1.6
func TestAdd(t *testing.T) {
	cases := []struct{ a, b, want api.Nat }{
		{nil, nil, nil},
		{nil, api.Nat{5}, api.Nat{5}},
		{api.Nat{2}, api.Nat{3}, api.Nat{5}},
		{api.Nat{4294967295}, api.Nat{1}, api.Nat{0, 1}},
		{api.Nat{1}, api.Nat{0xffffffff, 0xffffffff, 0xffffffff}, api.Nat{0, 0, 0, 1}},
		{api.Nat{0xffffffff, 0xffffffff}, api.Nat{0xffffffff, 0xffffffff}, api.Nat{0xfffffffe, 0xffffffff, 1}},
		{api.Nat{0xffffffff}, api.Nat{1, 5, 6}, api.Nat{0, 6, 6}},
	}
	for _, c := range cases {
		expect(t, "Add", Add(c.a, c.b), c.want)
		expect(t, "Add", Add(c.b, c.a), c.want)
	}
}

// P1.7
func TestSub(t *testing.T) {
	cases := []struct {
		a, b, want api.Nat
		is         bool
	}{
		{nil, nil, nil, true},
		{api.Nat{7}, nil, api.Nat{7}, true},
		{api.Nat{7}, api.Nat{5}, api.Nat{2}, true},
		{api.Nat{5}, api.Nat{7}, nil, false},
		{nil, api.Nat{1}, nil, false},
		{api.Nat{3, 4}, api.Nat{3, 4}, nil, true},
		{api.Nat{3, 4}, api.Nat{2, 4}, api.Nat{1}, true},
		{api.Nat{2, 4}, api.Nat{3, 4}, nil, false},
		{api.Nat{0xffffffff}, api.Nat{0, 1}, nil, false},
		{api.Nat{0, 0, 0, 1}, api.Nat{1}, api.Nat{0xffffffff, 0xffffffff, 0xffffffff}, true},
		{api.Nat{0, 5, 9}, api.Nat{1}, api.Nat{0xffffffff, 4, 9}, true},
	}
	for _, c := range cases {
		got, is := Sub(c.a, c.b)
		expect(t, "Sub", got, c.want)
		if is != c.is {
			t.Errorf("Sub(%v, %v): %t", c.a, c.b, is)
		}
	}
}

// P1.8
func TestMul(t *testing.T) {
	cases := []struct{ a, b, want api.Nat }{
		{nil, nil, nil},
		{nil, api.Nat{1, 2, 3}, nil},
		{api.Nat{1}, api.Nat{1, 2, 3}, api.Nat{1, 2, 3}},
		{api.Nat{6}, api.Nat{7}, api.Nat{42}},
		{api.Nat{0, 1}, api.Nat{0, 0, 1}, api.Nat{0, 0, 0, 1}},
		{api.Nat{4294967295}, api.Nat{4294967295}, api.Nat{1, 4294967294}},
		{api.Nat{0xffffffff, 0xffffffff}, api.Nat{0xffffffff, 0xffffffff}, api.Nat{1, 0, 0xfffffffe, 0xffffffff}},
	}
	for _, c := range cases {
		expect(t, "Mul", Mul(c.a, c.b), c.want)
		expect(t, "Mul", Mul(c.b, c.a), c.want)
	}
}

// P1.6, P1.8 and example 1 of the chapter
func TestChapterExample(t *testing.T) {
	greatest := api.Nat{4294967295}
	got := Add(Mul(greatest, greatest), greatest)
	expect(t, "example 1", got, api.Nat{0, 4294967295})
	if s := Format(got); s != "18446744069414584320" {
		t.Errorf("example 1: %s", s)
	}
}

// P1.5 to P1.8, P1.11: against another implementation
func TestArithmeticOfEdgeNumbers(t *testing.T) {
	numbers := edgeNumbers(3)
	for i, a := range numbers {
		if got, want := Bits(a), toBig(a).BitLen(); got != want {
			t.Fatalf("Bits(%v) = %d, want %d", a, got, want)
		}
		for _, b := range numbers[:i+1] {
			compareArithmetic(t, a, b)
			compareArithmetic(t, b, a)
		}
	}
}

func TestArithmeticOfLongNumbers(t *testing.T) {
	source := newSource()
	for range 2000 {
		compareArithmetic(t, someNumber(source, 40), someNumber(source, 40))
	}
}

func compareArithmetic(t *testing.T, a, b api.Nat) {
	t.Helper()
	x, y := toBig(a), toBig(b)
	if got, want := Cmp(a, b), x.Cmp(y); got != want {
		t.Fatalf("Cmp(%v, %v) = %d", a, b, got)
	}
	expect(t, "Add", Add(a, b), fromBig(new(big.Int).Add(x, y)))
	expect(t, "Mul", Mul(a, b), fromBig(new(big.Int).Mul(x, y)))
	difference, is := Sub(a, b)
	if is != (x.Cmp(y) >= 0) {
		t.Fatalf("Sub(%v, %v): %t", a, b, is)
	}
	expect(t, "Sub", difference, fromBig(new(big.Int).Sub(x, y)))
}

// P1.11
func TestBits(t *testing.T) {
	if Bits(nil) != 0 || Bits(api.Nat{}) != 0 {
		t.Error("Bits of zero")
	}
	if got := Bits(FromUint(4294967296)); got != 33 {
		t.Errorf("Bits of 2^32 = %d", got)
	}
	for n := range 200 {
		if got := Bits(power(n)); got != n+1 {
			t.Errorf("Bits of 2^%d = %d", n, got)
		}
		less, _ := Sub(power(n), FromUint(1))
		if got := Bits(less); got != n {
			t.Errorf("Bits of 2^%d - 1 = %d", n, got)
		}
	}
}

// P1.14
func TestLaws(t *testing.T) {
	source := newSource()
	for range 2000 {
		a, b, c := someNumber(source, 12), someNumber(source, 12), someNumber(source, 12)
		expect(t, "a + b", Add(a, b), Add(b, a))
		expect(t, "(a + b) + c", Add(Add(a, b), c), Add(a, Add(b, c)))
		expect(t, "a * b", Mul(a, b), Mul(b, a))
		expect(t, "(a * b) * c", Mul(Mul(a, b), c), Mul(a, Mul(b, c)))
		expect(t, "a * (b + c)", Mul(a, Add(b, c)), Add(Mul(a, b), Mul(a, c)))
		difference, is := Sub(Add(a, b), b)
		if !is {
			t.Fatalf("Sub of a sum and %v", b)
		}
		expect(t, "a + b - b", difference, a)
	}
}

// R3
func TestArgumentsAreNeitherChangedNorShared(t *testing.T) {
	numbers := append(edgeNumbers(2), api.Nat{9, 8, 7}, api.Nat{9, 8, 7, 6}, power(200), api.Nat{5, 0}, api.Nat{0})
	for _, a := range numbers {
		for _, b := range numbers {
			checkMemory(t, a, b)
		}
	}
}

const spare = 4

// roomy returns a with spare capacity that is filled with 77.
func roomy(a api.Nat) api.Nat {
	longer := slices.Clone(a)
	for range spare {
		longer = append(longer, 77)
	}
	return longer[:len(a)]
}

func checkMemory(t *testing.T, a, b api.Nat) {
	t.Helper()
	x, y := roomy(a), roomy(b)
	difference, _ := Sub(x, y)
	q, r, _ := DivMod(x, y)
	results := []api.Nat{Add(x, y), difference, Mul(x, y), q, r, GCD(x, y)}
	Cmp(x, y)
	Uint(x)
	Bits(x)
	Format(x)
	before := make([]api.Nat, len(results))
	for i := range results {
		before[i] = slices.Clone(results[i])
	}
	for i := range results {
		result := results[i][:cap(results[i])]
		for j := range result {
			result[j] = 12345
		}
		for j := i + 1; j < len(results); j++ {
			expect(t, "another result", results[j], before[j])
		}
	}
	expect(t, "first argument", x[:len(a)+spare], roomy(a)[:len(a)+spare])
	expect(t, "second argument", y[:len(b)+spare], roomy(b)[:len(b)+spare])
}

// R3: both arguments may be the same list.
func TestSameArgumentTwice(t *testing.T) {
	for _, a := range edgeNumbers(3)[1:] {
		expect(t, "a + a", Add(a, a), Mul(a, FromUint(2)))
		difference, is := Sub(a, a)
		q, r, e := DivMod(a, a)
		if !is || e != api.OK {
			t.Fatalf("%v: %t %v", a, is, e)
		}
		expect(t, "a - a", difference, nil)
		expect(t, "a / a", q, api.Nat{1})
		expect(t, "a mod a", r, nil)
		expect(t, "GCD(a, a)", GCD(a, a), a)
		square := fromBig(new(big.Int).Mul(toBig(a), toBig(a)))
		expect(t, "a * a", Mul(a, a), square)
	}
}
