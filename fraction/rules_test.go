package fraction_test

import (
	"slices"
	"testing"

	"saleroom/api"
	"saleroom/fraction"
)

// R1, R5: nothing panics and everything ends.
func TestInvalidFractionsAreSafe(t *testing.T) {
	bad := badFractions()
	all := append(bad, fracs("0", "1", "-1/2", "18446744073709551616/3", "-3/18446744073709551616")...)
	for _, a := range bad {
		useAlone(a)
		for _, b := range all {
			useTogether(a, b)
			useTogether(b, a)
		}
	}
	fraction.Sum(bad...)
	fraction.Dot(bad, bad)
}

func useAlone(a api.Frac) {
	fraction.Sign(a)
	fraction.Neg(a)
	fraction.Floor(a)
	fraction.Ceil(a)
	fraction.Format(a)
	fraction.Make(true, a.Num, a.Den)
	fraction.Make(false, a.Den, a.Num)
}

func useTogether(a, b api.Frac) {
	fraction.Cmp(a, b)
	fraction.Add(a, b)
	fraction.Sub(a, b)
	fraction.Mul(a, b)
	fraction.Div(a, b)
	fraction.Sum(a, b, a)
	fraction.Dot([]api.Frac{a, b}, []api.Frac{b, a})
}

// R3
func TestArgumentsAreNeitherChangedNorShared(t *testing.T) {
	all := fracs("0", "1", "-1", "2", "1/2", "-1/2", "3/4", "-4/3", "18446744073709551616", "-1/18446744073709551616",
		"79228162514264337593543950335/7")
	for _, a := range all {
		for _, b := range all {
			checkMemory(t, a, b)
		}
	}
}

const spare = 4

// roomy returns a in new memory, with spare capacity that is filled with 77.
func roomy(a api.Nat) api.Nat {
	longer := slices.Clone(a)
	for range spare {
		longer = append(longer, 77)
	}
	return longer[:len(a)]
}

func roomyFraction(a api.Frac) api.Frac {
	return api.Frac{Neg: a.Neg, Num: roomy(a.Num), Den: roomy(a.Den)}
}

func checkMemory(t *testing.T, a, b api.Frac) {
	t.Helper()
	x, y := roomyFraction(a), roomyFraction(b)
	list := []api.Frac{x, y}
	made, _ := fraction.Make(true, x.Num, x.Den)
	turned, _ := fraction.Make(false, x.Den, y.Den)
	ratio, _ := fraction.Div(x, y)
	results := []api.Frac{
		made, turned, ratio, fraction.Neg(x), fraction.Add(x, y), fraction.Sub(x, y), fraction.Mul(x, y),
		fraction.Sum(x), fraction.Sum(list...), fraction.Dot(list[:1], []api.Frac{y}), fraction.Dot(list, list),
	}
	useAlone(x)
	fraction.Valid(x)
	fraction.Cmp(x, y)
	checkOverwrite(t, partsOf(results))
	checkRoomy(t, x, a)
	checkRoomy(t, y, b)
	expect(t, "first element", list[0], a)
	expect(t, "second element", list[1], b)
}

// partsOf returns the lists that the fractions consist of.
func partsOf(results []api.Frac) []api.Nat {
	var parts []api.Nat
	for _, f := range results {
		parts = append(parts, f.Num, f.Den)
	}
	return parts
}

// checkOverwrite writes into each list and expects that the lists behind it stay as they were.
func checkOverwrite(t *testing.T, lists []api.Nat) {
	t.Helper()
	before := make([]api.Nat, len(lists))
	for i, list := range lists {
		before[i] = slices.Clone(list)
	}
	for i, list := range lists {
		whole := list[:cap(list)]
		for j := range whole {
			whole[j] = 12345
		}
		for j := i + 1; j < len(lists); j++ {
			if !slices.Equal(lists[j], before[j]) {
				t.Fatalf("list %d shares memory with list %d", j, i)
			}
		}
	}
}

// checkRoomy expects that x is still the roomy form of a.
func checkRoomy(t *testing.T, x, a api.Frac) {
	t.Helper()
	want := roomyFraction(a)
	for _, pair := range [][2]api.Nat{{x.Num, want.Num}, {x.Den, want.Den}} {
		got, want := pair[0], pair[1]
		if !slices.Equal(got[:len(got)+spare], want[:len(want)+spare]) {
			t.Fatalf("an argument became %v", got[:len(got)+spare])
		}
	}
}

// R3: both arguments may be the same fraction.
func TestSameArgumentTwice(t *testing.T) {
	for _, a := range edgeFractions() {
		expect(t, "a + a", fraction.Add(a, a), fraction.Mul(a, frac("2")))
		expect(t, "a - a", fraction.Sub(a, a), frac("0"))
		if fraction.Cmp(a, a) != 0 {
			t.Errorf("Cmp(%v, %v)", a, a)
		}
		if ratio, e := fraction.Div(a, a); e == api.OK {
			expect(t, "a / a", ratio, frac("1"))
		} else if fraction.Sign(a) != 0 {
			t.Errorf("%v divided by itself: %v", a, e)
		}
	}
}

// Every result for valid arguments is valid.
func TestResultsAreValid(t *testing.T) {
	source := newSource()
	all := edgeFractions()
	for range 100 {
		all = append(all, someFraction(source, 5))
	}
	for i, a := range all {
		b := all[(i*7+3)%len(all)]
		for _, f := range []api.Frac{
			fraction.Neg(a), fraction.Add(a, b), fraction.Sub(a, b), fraction.Mul(a, b), fraction.Sum(a, b, a), fraction.Dot(all[:i], all),
		} {
			if !fraction.Valid(f) {
				t.Fatalf("%v and %v give %v, which is not valid", a, b, f)
			}
		}
	}
}
