package bundle_test

import (
	"slices"
	"testing"

	"saleroom/api"
	"saleroom/bundle"
)

// pair is what Splits yields.
type pair struct {
	first, second api.Bundle
}

// pairsOf returns what Splits yields for b.
func pairsOf(b api.Bundle) []pair {
	var all []pair
	for first, second := range bundle.Splits(b) {
		all = append(all, pair{first, second})
	}
	return all
}

// P7.12: the example of the chapter, and others
func TestAll(t *testing.T) {
	cases := []struct {
		supply api.Bundle
		want   []api.Bundle
	}{
		{with(1, 1), []api.Bundle{with(0, 0), with(0, 1), with(1, 0), with(1, 1)}},
		{with(), []api.Bundle{with()}},
		{with(4), []api.Bundle{with(0), with(1), with(2), with(3), with(4)}},
		{with(0, 0, 0, 0, 0, 2), []api.Bundle{with(), with(0, 0, 0, 0, 0, 1), with(0, 0, 0, 0, 0, 2)}},
		{with(1, 0, 2), []api.Bundle{with(), with(0, 0, 1), with(0, 0, 2), with(1), with(1, 0, 1), with(1, 0, 2)}},
	}
	for _, c := range cases {
		if got := slices.Collect(bundle.All(c.supply)); !slices.Equal(got, c.want) {
			t.Errorf("All(%v) yields %v, want %v", c.supply, got, c.want)
		}
	}
}

// P7.12: bundles that are no supplies
func TestAllWithoutSupply(t *testing.T) {
	expectNone := func(supply api.Bundle) {
		for b := range bundle.All(supply) {
			t.Fatalf("All(%v) yields %v", supply, b)
		}
	}
	for _, supply := range noSupplies {
		expectNone(supply)
	}
	eachInvalid(expectNone)
}

// P7.12: the caller stops after each number of bundles, and nothing is yielded after that.
func TestAllStops(t *testing.T) {
	supply := with(1, 0, 2, 1)
	inside := listUpTo(supply)
	for stop := 1; stop <= len(inside); stop++ {
		var got []api.Bundle
		bundle.All(supply)(func(b api.Bundle) bool {
			got = append(got, b)
			return len(got) < stop
		})
		if !slices.Equal(got, inside[:stop]) {
			t.Errorf("All stopped after %d bundles yields %v", stop, got)
		}
	}
}

// R7: the same sequence yields the same bundles again, also within itself and when it was left, whatever the caller does with them.
func TestAllAgain(t *testing.T) {
	supply := with(1, 2)
	inside := listUpTo(supply)
	sequence := bundle.All(supply)
	var got []api.Bundle
	for b := range sequence {
		if b == inside[2] {
			break
		}
	}
	for b := range sequence {
		if nested := slices.Collect(sequence); !slices.Equal(nested, inside) {
			t.Fatalf("the sequence within itself yields %v", nested)
		}
		got = append(got, b)
		b[0], b[5] = 7, -7
	}
	if !slices.Equal(got, inside) {
		t.Errorf("the sequence yields %v, want %v", got, inside)
	}
}

// P7.14: the example of the chapter, and others
func TestSplits(t *testing.T) {
	cases := []struct {
		b    api.Bundle
		want []pair
	}{
		{with(1, 1), []pair{{with(0, 0), with(1, 1)}, {with(0, 1), with(1, 0)}, {with(1, 0), with(0, 1)}, {with(1, 1), with(0, 0)}}},
		{with(), []pair{{with(), with()}}},
		{with(2), []pair{{with(0), with(2)}, {with(1), with(1)}, {with(2), with(0)}}},
		{with(0, 0, 0, 0, 0, 1), []pair{{with(), with(0, 0, 0, 0, 0, 1)}, {with(0, 0, 0, 0, 0, 1), with()}}},
	}
	for _, c := range cases {
		if got := pairsOf(c.b); !slices.Equal(got, c.want) {
			t.Errorf("Splits(%v) yields %v, want %v", c.b, got, c.want)
		}
	}
}

// P7.14: every valid bundle, supply or not
func TestSplitsOfEveryBundle(t *testing.T) {
	eachValid(func(b api.Bundle) {
		parts := listUpTo(b)
		n := 0
		for first, second := range bundle.Splits(b) {
			if n == len(parts) || first != parts[n] {
				t.Fatalf("Splits(%v) yields %v as the first part %d of %d", b, first, n, len(parts))
			}
			for k := range b {
				if second[k] != b[k]-first[k] {
					t.Fatalf("Splits(%v) yields %v and %v", b, first, second)
				}
			}
			n++
		}
		if n != len(parts) {
			t.Fatalf("Splits(%v) yields %d pairs, want %d", b, n, len(parts))
		}
	})
}

// P7.14: by the definition, all pairs of valid bundles of two products whose sum is b
func TestSplitsByDefinition(t *testing.T) {
	eachUpTo(with(units, units), func(b api.Bundle) {
		var want []pair
		eachUpTo(with(units, units), func(first api.Bundle) {
			eachUpTo(with(units, units), func(second api.Bundle) {
				if with(first[0]+second[0], first[1]+second[1]) == b {
					want = append(want, pair{first, second})
				}
			})
		})
		if got := pairsOf(b); !slices.Equal(got, want) {
			t.Errorf("Splits(%v) yields %v, want %v", b, got, want)
		}
	})
}

// P7.14: bundles that are not valid, of which some are the sum of two valid bundles
func TestSplitsOfInvalidBundles(t *testing.T) {
	expectNone := func(b api.Bundle) {
		for first, second := range bundle.Splits(b) {
			t.Fatalf("Splits(%v) yields %v and %v", b, first, second)
		}
	}
	eachInvalid(expectNone)
	expectNone(with(5))
	expectNone(same(8))
	expectNone(with(1, 1, -1))
}

// P7.14: the caller stops after each number of pairs, and nothing is yielded after that.
func TestSplitsStops(t *testing.T) {
	b := with(2, 1, 0, 1)
	whole := pairsOf(b)
	for stop := 1; stop <= len(whole); stop++ {
		var got []pair
		bundle.Splits(b)(func(first, second api.Bundle) bool {
			got = append(got, pair{first, second})
			return len(got) < stop
		})
		if !slices.Equal(got, whole[:stop]) {
			t.Errorf("Splits stopped after %d pairs yields %v", stop, got)
		}
	}
}

// R7: the same sequence yields the same pairs again, also within itself and when it was left, whatever the caller does with them.
func TestSplitsAgain(t *testing.T) {
	b := with(1, 2)
	whole := pairsOf(b)
	sequence := bundle.Splits(b)
	for first := range sequence {
		if first == with(0, 2) {
			break
		}
	}
	var got []pair
	for first, second := range sequence {
		nested := 0
		for range sequence {
			nested++
		}
		if nested != len(whole) {
			t.Fatalf("the sequence within itself yields %d pairs", nested)
		}
		got = append(got, pair{first, second})
		first[1], second[1] = 9, -9
	}
	if len(whole) != 6 || !slices.Equal(got, whole) {
		t.Errorf("the sequence yields %v, want %v", got, whole)
	}
}
