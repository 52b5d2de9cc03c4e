package bundle_test

import (
	"slices"
	"testing"

	"saleroom/api"
	"saleroom/bundle"
)

// P7.9 to P7.12, P7.15: every bundle within every supply. Rank and Unrank are inverse to each other.
func TestEverySupply(t *testing.T) {
	eachSupply(func(supply api.Bundle, inside []api.Bundle) {
		if got := bundle.Count(supply); got != len(inside) {
			t.Fatalf("Count(%v) = %d, want %d", supply, got, len(inside))
		}
		if got := slices.Collect(bundle.All(supply)); !slices.Equal(got, inside) {
			t.Fatalf("All(%v) yields %d bundles: %v", supply, len(got), got)
		}
		for n, b := range inside {
			expectRank(t, supply, b, n)
		}
	})
}

// order returns -1, 0 or 1 if a is less than, equal to, or greater than b.
func order(a, b int) int {
	switch {
	case a < b:
		return -1
	case a > b:
		return 1
	}
	return 0
}

// P7.15: Compare orders as the ranks do.
func TestCompareAsRanks(t *testing.T) {
	for _, supply := range []api.Bundle{with(2, 2), with(0, 4, 0, 3), same(1), with(1, 2, 3, 4), with(3, 3, 3, 3, 3)} {
		for m, a := range listUpTo(supply) {
			for n, b := range listUpTo(supply) {
				if got := bundle.Compare(a, b); got != order(m, n) {
					t.Fatalf("within %v: Compare(%v, %v) = %d, and the ranks are %d and %d", supply, a, b, got, m, n)
				}
			}
		}
	}
}

// expectLattice expects what P7.15 says of Meet and Join, against the bundles c.
func expectLattice(t *testing.T, a, b api.Bundle, candidates []api.Bundle) {
	t.Helper()
	meet, join := bundle.Meet(a, b), bundle.Join(a, b)
	if !bundle.Within(meet, a) || !bundle.Within(meet, b) || !bundle.Within(a, join) || !bundle.Within(b, join) {
		t.Fatalf("for %v and %v: Meet is %v, Join is %v", a, b, meet, join)
	}
	if bundle.Check(meet) != api.OK || bundle.Check(join) != api.OK || bundle.Add(meet, join) != bundle.Add(a, b) {
		t.Fatalf("for %v and %v: Meet is %v, Join is %v", a, b, meet, join)
	}
	for _, c := range candidates {
		if bundle.Within(c, a) && bundle.Within(c, b) && !bundle.Within(c, meet) {
			t.Fatalf("%v is within %v and %v, and not within their Meet %v", c, a, b, meet)
		}
		if bundle.Within(a, c) && bundle.Within(b, c) && !bundle.Within(join, c) {
			t.Fatalf("%v and %v are within %v, and their Join %v is not", a, b, c, join)
		}
	}
}

// P7.15: Meet is the greatest bundle within both, Join the least that both are within, and Meet plus Join is the sum.
func TestMeetAndJoinAreExtreme(t *testing.T) {
	two := listUpTo(with(units, units))
	for _, a := range two {
		for _, b := range two {
			expectLattice(t, a, b, two)
		}
	}
	whole := listUpTo(same(units))
	source := newSource()
	for range 100 {
		expectLattice(t, someBundle(source, 0, units), someBundle(source, 0, units), whole)
	}
}
