package natural

import (
	"math/big"
	"math/rand/v2"
	"slices"
	"testing"

	"saleroom/api"
)

// edgeDigits are the digits at which carries, borrows and estimates of quotients go wrong if they ever do.
var edgeDigits = []uint32{0, 1, 2, 0x7fffffff, 0x80000000, 0xfffffffe, 0xffffffff}

// edgeNumbers returns every valid number with at most most digits, all of them edge digits.
func edgeNumbers(most int) []api.Nat {
	all := []api.Nat{nil}
	lists := []api.Nat{nil}
	for range most {
		var longer []api.Nat
		for _, list := range lists {
			for _, digit := range edgeDigits {
				longer = append(longer, append(slices.Clone(list), digit))
			}
		}
		lists = longer
		for _, list := range lists {
			if list[len(list)-1] != 0 {
				all = append(all, list)
			}
		}
	}
	return all
}

// invalid are lists that are not valid: their last digit is 0.
var invalid = []api.Nat{
	{0}, {0, 0}, {0, 0, 0, 0}, {1, 0}, {7, 0, 0, 0}, {0, 1, 0}, {5, 6, 7, 0}, {0xffffffff, 0xffffffff, 0}, make(api.Nat, 100),
}

// newSource returns a source of the same numbers in every run.
func newSource() *rand.Rand {
	return rand.New(rand.NewPCG(1, 2))
}

// someNumber returns a valid number with at most most digits, many of them edge digits.
func someNumber(source *rand.Rand, most int) api.Nat {
	a := make(api.Nat, source.IntN(most+1))
	for i := range a {
		a[i] = source.Uint32()
		if source.IntN(2) == 0 {
			a[i] = edgeDigits[source.IntN(len(edgeDigits))]
		}
	}
	if len(a) > 0 && a[len(a)-1] == 0 {
		a[len(a)-1] = 1
	}
	return a
}

func toBig(a api.Nat) *big.Int {
	x := new(big.Int)
	for _, digit := range slices.Backward(a) {
		x.Lsh(x, 32)
		x.Or(x, big.NewInt(int64(digit)))
	}
	return x
}

func fromBig(x *big.Int) api.Nat {
	var a api.Nat
	rest, mask := new(big.Int).Set(x), big.NewInt(0xffffffff)
	for rest.Sign() > 0 {
		a = append(a, uint32(new(big.Int).And(rest, mask).Uint64()))
		rest.Rsh(rest, 32)
	}
	return a
}

// expect compares digit by digit, so that a result that is not valid is an error as well.
func expect(t *testing.T, what string, got, want api.Nat) {
	t.Helper()
	if !slices.Equal(got, want) {
		t.Fatalf("%s: got %v, want %v", what, got, want)
	}
}

func parse(t *testing.T, s string) api.Nat {
	t.Helper()
	a, e := Parse(s)
	if e != api.OK {
		t.Fatalf("Parse(%q): %v", s, e)
	}
	return a
}

// power returns 2^n.
func power(n int) api.Nat {
	a := make(api.Nat, n/32+1)
	a[n/32] = 1 << (n % 32)
	return a
}
