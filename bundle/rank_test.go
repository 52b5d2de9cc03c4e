package bundle_test

import (
	"math"
	"testing"

	"saleroom/api"
	"saleroom/bundle"
)

// P7.9: the example of the chapter, and supplies with 1024 and nearly as many bundles
func TestCount(t *testing.T) {
	cases := []struct {
		supply api.Bundle
		want   int
	}{
		{with(2, 2), 9},
		{with(), 1},
		{with(4), 5},
		{with(0, 0, 0, 0, 0, 3), 4},
		{with(1, 2, 3, 4), 120},
		{same(1), 64},
		{same(2), 729},
		{with(4, 4, 4, 4), 625},
		{with(4, 4, 4, 3, 1), 1000},
		{with(3, 3, 3, 3, 3), 1024},
		{with(0, 3, 3, 3, 3, 3), 1024},
		{with(3, 3, 3, 3, 1, 1), 1024},
	}
	for _, c := range cases {
		if got := bundle.Count(c.supply); got != c.want {
			t.Errorf("Count(%v) = %d, want %d", c.supply, got, c.want)
		}
	}
	for _, b := range noSupplies {
		if got := bundle.Count(b); got != 0 {
			t.Errorf("Count(%v) = %d", b, got)
		}
	}
}

// P7.9: every valid bundle
func TestCountOfEveryBundle(t *testing.T) {
	supplies, greatest := 0, 0
	eachValid(func(b api.Bundle) {
		want := countUpTo(b)
		if want > packages {
			want = 0
		} else {
			supplies++
			greatest = max(greatest, want)
		}
		if got := bundle.Count(b); got != want {
			t.Fatalf("Count(%v) = %d, want %d", b, got, want)
		}
	})
	if supplies == 0 || supplies == 15625 || greatest != 1024 {
		t.Errorf("%d of the valid bundles are supplies, the greatest of them with %d bundles", supplies, greatest)
	}
}

// P7.9: bundles that are not valid, of which the product of the bases can be from 1 to 1024
func TestCountOfInvalidBundles(t *testing.T) {
	eachInvalid(func(b api.Bundle) {
		if got := bundle.Count(b); got != 0 {
			t.Fatalf("Count(%v) = %d", b, got)
		}
	})
	for _, b := range []api.Bundle{with(5), with(1023), with(-2, -2), with(-1), with(-3, -3, 1), with(1<<32-1, 1<<32-1), with(1<<62, 3), with(math.MaxInt, math.MaxInt)} {
		if got := bundle.Count(b); got != 0 {
			t.Errorf("Count(%v) = %d", b, got)
		}
	}
}

// expectRank expects that b has the rank n within supply, by Rank and by Unrank.
func expectRank(t *testing.T, supply, b api.Bundle, n int) {
	t.Helper()
	if got, e := bundle.Rank(supply, b); e != api.OK || got != n {
		t.Fatalf("Rank(%v, %v) = %d, %v, want %d", supply, b, got, e, n)
	}
	if got, e := bundle.Unrank(supply, n); e != api.OK || got != b {
		t.Fatalf("Unrank(%v, %d) = %v, %v, want %v", supply, n, got, e, b)
	}
}

// P7.10, P7.11: the examples of the chapter, and others
func TestRankAndUnrank(t *testing.T) {
	expectRank(t, with(2, 2), with(1, 2), 5)
	expectRank(t, with(2, 2), with(), 0)
	expectRank(t, with(2, 2), with(2, 2), 8)
	expectRank(t, with(), with(), 0)
	expectRank(t, with(4), with(3), 3)
	expectRank(t, with(0, 0, 0, 0, 0, 4), with(0, 0, 0, 0, 0, 4), 4)
	expectRank(t, with(1, 0, 3), with(1, 0, 2), 6)
	expectRank(t, with(1, 2, 3, 4), with(1, 1, 2, 3), 93)
	expectRank(t, with(3, 3, 3, 3, 3), with(3, 3, 3, 3, 3), 1023)
	expectRank(t, with(3, 3, 3, 3, 3), with(1, 0, 0, 0, 2), 258)
	expectRank(t, same(2), with(1, 0, 2, 0, 1, 2), 302)
}

// expectNoRank expects ErrRange from Rank.
func expectNoRank(t *testing.T, supply, b api.Bundle) {
	t.Helper()
	if got, e := bundle.Rank(supply, b); e != api.ErrRange || got != 0 {
		t.Fatalf("Rank(%v, %v) = %d, %v", supply, b, got, e)
	}
}

// P7.10: bundles that are valid and not within the supply, and bundles that are not valid
func TestRankErrors(t *testing.T) {
	expectNoRank(t, with(2, 2), with(3))
	expectNoRank(t, with(2, 2), with(0, 3))
	expectNoRank(t, with(2, 2), with(0, 0, 1))
	expectNoRank(t, with(2, 2), with(2, 2, 0, 0, 0, 1))
	expectNoRank(t, with(2, 2), with(-1, 2))
	expectNoRank(t, with(2, 2), with(2, -1))
	expectNoRank(t, with(), with(1))
	expectNoRank(t, with(4), with(5))
	for _, supply := range []api.Bundle{with(), with(4, 4), same(1), same(2), with(3, 3, 3, 3, 3)} {
		eachInvalid(func(b api.Bundle) { expectNoRank(t, supply, b) })
		eachValid(func(b api.Bundle) {
			within := true
			for k := range b {
				within = within && b[k] <= supply[k]
			}
			if !within {
				expectNoRank(t, supply, b)
			}
		})
	}
}

// P7.10: bundles that are no supplies
func TestRankWithoutSupply(t *testing.T) {
	for _, supply := range noSupplies {
		expectNoRank(t, supply, with())
		expectNoRank(t, supply, with(0, 1))
		expectNoRank(t, supply, supply)
	}
	eachInvalid(func(supply api.Bundle) {
		expectNoRank(t, supply, with())
		expectNoRank(t, supply, with(1))
		expectNoRank(t, supply, supply)
	})
}

// expectNoUnrank expects ErrRange from Unrank.
func expectNoUnrank(t *testing.T, supply api.Bundle, n int) {
	t.Helper()
	if got, e := bundle.Unrank(supply, n); e != api.ErrRange || got != with() {
		t.Fatalf("Unrank(%v, %d) = %v, %v", supply, n, got, e)
	}
}

// P7.11: numbers outside the ranks
func TestUnrankErrors(t *testing.T) {
	expectNoUnrank(t, with(2, 2), 9)
	expectNoUnrank(t, with(2, 2), -1)
	eachSupply(func(supply api.Bundle, inside []api.Bundle) {
		count := len(inside)
		for _, n := range []int{-1, -2, -count, count, count + 1, 2 * count, packages + 1, 1 << 32, 1<<32 + count - 1, math.MaxInt, math.MinInt} {
			if n < 0 || n >= count {
				expectNoUnrank(t, supply, n)
			}
		}
	})
}

// P7.11: bundles that are no supplies
func TestUnrankWithoutSupply(t *testing.T) {
	for _, n := range []int{0, 1, 4, -1, 1023, 1024, math.MaxInt, math.MinInt} {
		for _, supply := range noSupplies {
			expectNoUnrank(t, supply, n)
		}
		eachInvalid(func(supply api.Bundle) { expectNoUnrank(t, supply, n) })
	}
}
