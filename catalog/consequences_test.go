package catalog_test

import (
	"slices"
	"testing"

	"saleroom/api"
	"saleroom/catalog"
)

// P8.6: Parse of Format returns the bundle, for every bundle that fits.
func TestParseOfFormat(t *testing.T) {
	source := newSource()
	for _, l := range [][]api.Product{example(), list(1), list(1, 2, 3, 4, 1), list(1, 1, 1, 1, 1, 1), someList(source), someList(source)} {
		eachBundle(func(b api.Bundle) {
			if others := b[len(l):]; slices.Max(append(others, 0)) > 0 {
				expectFormat(t, l, b, "")
				return
			}
			expectParse(t, l, catalog.Format(l, b), b, api.OK)
		})
	}
}

// P8.6: Points, Reserve and Units of a sum are the sums.
func TestSumsOfASum(t *testing.T) {
	source := newSource()
	for range 5000 {
		l, sum := someList(source), someBundle(source)
		a, b := sum, sum
		for k := range sum {
			a[k] = source.IntN(sum[k] + 1)
			b[k] = sum[k] - a[k]
		}
		if got, want := catalog.Points(l, sum), catalog.Points(l, a)+catalog.Points(l, b); got != want {
			t.Fatalf("Points(%v) = %d, want %d", sum, got, want)
		}
		if got, want := catalog.Reserve(l, sum), catalog.Reserve(l, a)+catalog.Reserve(l, b); got != want {
			t.Fatalf("Reserve(%v) = %d, want %d", sum, got, want)
		}
		for group := range classes + 1 {
			if got, want := catalog.Units(l, group, sum), catalog.Units(l, group, a)+catalog.Units(l, group, b); got != want {
				t.Fatalf("Units(%d, %v) = %d, want %d", group, sum, got, want)
			}
		}
	}
}
