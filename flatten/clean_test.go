package flatten_test

import (
	"math"
	"slices"
	"testing"

	"saleroom/api"
	"saleroom/flatten"
)

// expectClean expects the offers that remain of a list.
func expectClean(t *testing.T, l, want []api.Offer) {
	t.Helper()
	if got := flatten.Clean(l); !slices.Equal(got, want) {
		t.Errorf("Clean(%v) = %v, want %v", l, got, want)
	}
}

// P14.5: the example of the chapter, and others
func TestClean(t *testing.T) {
	expectClean(t, []api.Offer{bid(5, 1, 1), bid(5, 1), bid(6, 0, 1)}, []api.Offer{bid(5, 1), bid(6, 0, 1)})
	expectClean(t, []api.Offer{bid(6, 0, 1), bid(5, 1, 1), bid(5, 1)}, []api.Offer{bid(6, 0, 1), bid(5, 1)})
	expectClean(t, []api.Offer{bid(7, 1, 1), bid(5, 1), bid(6, 0, 1)}, []api.Offer{bid(7, 1, 1), bid(5, 1), bid(6, 0, 1)})
	expectClean(t, []api.Offer{bid(6, 1, 1), bid(5, 1), bid(6, 0, 1)}, []api.Offer{bid(5, 1), bid(6, 0, 1)})
	expectClean(t, []api.Offer{bid(5, 2), bid(5, 0, 2), bid(5, 1, 1)}, []api.Offer{bid(5, 2), bid(5, 0, 2), bid(5, 1, 1)})
	expectClean(t, []api.Offer{bid(5, 1), bid(4, 1), bid(6, 1)}, []api.Offer{bid(6, 1)})
	expectClean(t, []api.Offer{bid(5, 1), bid(4, 2), bid(6, 3)}, []api.Offer{bid(5, 1), bid(6, 3)})
	expectClean(t, []api.Offer{bid(3, 3), bid(2, 2), bid(1, 1)}, []api.Offer{bid(3, 3), bid(2, 2), bid(1, 1)})
	expectClean(t, []api.Offer{bid(3, 3), bid(3, 2), bid(3, 1)}, []api.Offer{bid(3, 1)})
	expectClean(t, []api.Offer{bid(3, 1), bid(3, 2), bid(3, 3)}, []api.Offer{bid(3, 1)})
	expectClean(t, []api.Offer{bid(5), bid(5, 1), bid(6, 1)}, []api.Offer{bid(5), bid(6, 1)})
	expectClean(t, nil, nil)
}

// P14.5: of equal offers, the first one remains where it is.
func TestCleanOfEqualOffers(t *testing.T) {
	expectClean(t, []api.Offer{bid(5, 1), bid(5, 1)}, []api.Offer{bid(5, 1)})
	expectClean(t, []api.Offer{bid(5, 1), bid(6, 0, 1), bid(5, 1), bid(6, 0, 1), bid(5, 1)}, []api.Offer{bid(5, 1), bid(6, 0, 1)})
	expectClean(t, []api.Offer{bid(6, 0, 1), bid(5, 1), bid(5, 1), bid(6, 0, 1)}, []api.Offer{bid(6, 0, 1), bid(5, 1)})
	expectClean(t, slices.Repeat([]api.Offer{bid(math.MaxInt64, 1)}, 1000), []api.Offer{bid(math.MaxInt64, 1)})
}

// P14.5: values below 1
func TestCleanOfSmallValues(t *testing.T) {
	for _, value := range []int64{0, -1, -5, math.MinInt64} {
		expectClean(t, []api.Offer{bid(value, 1)}, nil)
		expectClean(t, []api.Offer{bid(value, 1), bid(1, 1), bid(value, 0, 1), bid(value)}, []api.Offer{bid(1, 1)})
		expectClean(t, slices.Concat(of(1, bid(value)), of(2, bid(1, 1))), of(2, bid(1, 1)))
	}
}

// P14.5: offers of other bidders do not matter.
func TestCleanOfSeveralBidders(t *testing.T) {
	l := slices.Concat(of(1, bid(5, 1)), of(2, bid(5, 1)), of(-1, bid(9)), of(math.MaxInt, bid(4, 1)), of(0, bid(1, 1, 1)))
	expectClean(t, l, l)
	l = slices.Concat(of(1, bid(5, 1, 1)), of(2, bid(5, 1)), of(1, bid(5, 1), bid(5, 0, 1)), of(2, bid(5, 1, 1), bid(6, 1, 1)))
	expectClean(t, l, slices.Concat(of(2, bid(5, 1)), of(1, bid(5, 1), bid(5, 0, 1)), of(2, bid(6, 1, 1))))
}

// P14.5: bundles that are not valid are compared as they are.
func TestCleanOfInvalidBundles(t *testing.T) {
	expectClean(t, []api.Offer{bid(5), bid(5, -1), bid(5, math.MinInt)}, []api.Offer{bid(5, math.MinInt)})
	expectClean(t, []api.Offer{bid(5, math.MaxInt), bid(5, math.MinInt, 1), bid(5, 5)}, []api.Offer{bid(5, math.MinInt, 1), bid(5, 5)})
	expectClean(t, []api.Offer{bid(5, math.MinInt), bid(5, math.MaxInt)}, []api.Offer{bid(5, math.MinInt)})
}

// P14.5: random lists, by the definition
func TestCleanByDefinition(t *testing.T) {
	source := newSource()
	gone, left := 0, 0
	for i := range 6000 {
		l := someOffers(source, supplies[i%len(supplies)], source.IntN(30))
		want := cleanByDefinition(l)
		gone += len(l) - len(want)
		left += len(want)
		expectClean(t, l, want)
		expectClean(t, want, want)
	}
	if gone < 20000 || left < 20000 {
		t.Errorf("%d offers are gone, and %d are left", gone, left)
	}
}

// P14.5: all lists of up to four of some offers of a bidder, and one of another bidder
func TestCleanOfAllShortLists(t *testing.T) {
	some := append(of(2, bid(1, 1)), bid(0, 1), bid(1, 1), bid(2, 1), bid(2, 0, 1), bid(2, 1, 1), bid(3, 1, 1), bid(1))
	var extend func(l []api.Offer)
	extend = func(l []api.Offer) {
		expectClean(t, l, cleanByDefinition(l))
		if len(l) == 4 {
			return
		}
		for _, offer := range some {
			extend(append(slices.Clip(l), offer))
		}
	}
	extend(nil)
}
