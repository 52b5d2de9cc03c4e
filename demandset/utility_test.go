package demandset_test

import (
	"math"
	"slices"
	"testing"

	"saleroom/api"
	"saleroom/demandset"
)

// expectUtility expects a utility.
func expectUtility(t *testing.T, l []api.Offer, p api.Prices, b api.Bundle, want int64) {
	t.Helper()
	if got := demandset.Utility(l, p, b); got != want {
		t.Errorf("Utility(%v, %v, %v) = %d, want %d", l, p, b, got, want)
	}
}

// P15.1: the example of the chapter, and others
func TestUtility(t *testing.T) {
	one := []api.Offer{bid(10, 1)}
	expectUtility(t, one, at(3, 2), with(1, 1), 5)
	expectUtility(t, one, at(3, 2), with(1), 7)
	expectUtility(t, one, at(3, 2), with(0, 1), -2)
	expectUtility(t, one, at(3, 2), with(), 0)
	expectUtility(t, one, at(3, 2), with(4, 4), -10)
	expectUtility(t, one, at(12), with(1), -2)
	expectUtility(t, nil, at(3, 2), with(2, 1), -8)
	two := []api.Offer{bid(10, 1), bid(12, 1, 1), bid(11, 2)}
	expectUtility(t, two, at(3, 2), with(1, 1), 7)
	expectUtility(t, two, at(3, 2), with(2, 1), 4)
	expectUtility(t, two, at(3, 2), with(2), 5)
	expectUtility(t, two, at(3, 2, 7), with(2, 0, 1), -2)
	expectUtility(t, []api.Offer{bid(9, 1), bid(4, 2)}, at(1), with(2), 7)
	expectUtility(t, []api.Offer{bid(4, 2), bid(9, 1)}, at(1), with(2), 7)
	expectUtility(t, []api.Offer{bid(6, 0, 0, 0, 0, 0, 4)}, at(0, 0, 0, 0, 0, 1), with(0, 0, 0, 0, 0, 4), 2)
}

// P15.1: an offer on the empty bundle counts as well, so that every bundle has its value.
func TestUtilityOfTheEmptyBundle(t *testing.T) {
	l := []api.Offer{bid(5), bid(8, 1)}
	expectUtility(t, l, at(1), with(), 5)
	expectUtility(t, l, at(1), with(0, 1), 5)
	expectUtility(t, l, at(1), with(1), 7)
	expectUtility(t, l, at(most, most, most, most, most, most), with(), 5)
}

// P15.1: the ends of the ranges of values, quantities and prices
func TestUtilityOfExtremes(t *testing.T) {
	all := with(4, 4, 4, 4, 4, 4)
	highest := at(most, most, most, most, most, most)
	expectUtility(t, nil, highest, all, -24*most)
	expectUtility(t, []api.Offer{{Want: all, Value: most}}, highest, all, -23*most)
	expectUtility(t, []api.Offer{{Want: all, Value: most}}, at(), all, most)
	expectUtility(t, []api.Offer{{Want: all, Value: 1}}, at(), all, 1)
	expectUtility(t, []api.Offer{{Want: all, Value: most}}, at(), with(4, 4, 4, 4, 4, 3), 0)
	expectUtility(t, []api.Offer{{Value: most}}, at(), with(), most)
}

// P15.1: the Bidder of an offer plays no part.
func TestUtilityOfAnyBidder(t *testing.T) {
	for _, bidder := range []int{math.MinInt, -1, 0, 1, 8, math.MaxInt} {
		l := []api.Offer{{Bidder: bidder, Want: with(1), Value: 10}, {Bidder: 1, Want: with(1, 1), Value: 12}}
		expectUtility(t, l, at(3, 2), with(1), 7)
		expectUtility(t, l, at(3, 2), with(1, 1), 7)
		expectUtility(t, l, at(3), with(1, 1), 9)
	}
}

// P15.1: offers that do not count, alone and among others
func TestUtilityWithoutOffersThatDoNotCount(t *testing.T) {
	for _, bad := range badOffers() {
		for _, b := range []api.Bundle{with(), with(1), with(1, 1), with(4, 4, 4, 4, 4, 4)} {
			expectUtility(t, []api.Offer{bad}, at(1), b, int64(-b[0]))
			expectUtility(t, []api.Offer{bad, bid(2), bad}, at(), b, 2)
			expectUtility(t, []api.Offer{bid(7, 1), bad, bid(3)}, at(), b, int64(3+4*min(b[0], 1)))
		}
	}
	expectUtility(t, badOffers(), at(), with(4, 4, 4, 4, 4, 4), 0)
}

// P15.1: bundles and prices that are not valid
func TestUtilityOfInvalidArguments(t *testing.T) {
	l := []api.Offer{bid(5), bid(10, 1), bid(20, 1, 1, 1, 1, 1, 1)}
	for _, b := range badBundles() {
		expectUtility(t, l, at(), b, 0)
		expectUtility(t, l, at(3, 2), b, 0)
		expectUtility(t, append(l, api.Offer{Want: b, Value: 9}), at(), b, 0)
	}
	for _, p := range badPrices() {
		expectUtility(t, l, p, with(), 0)
		expectUtility(t, l, p, with(1), 0)
		expectUtility(t, l, p, with(1, 1, 1, 1, 1, 1), 0)
		expectUtility(t, l, p, badBundles()[0], 0)
	}
}

// P15.1: random lists, by the definition
func TestUtilityByDefinition(t *testing.T) {
	source := newSource()
	seen := map[int64]bool{}
	for range 300 {
		l := someOffers(source, with(2, 2, 1), source.IntN(12))
		p := somePrices(source, 6)
		for _, b := range slices.Concat(allWithin(with(3, 2, 2)), []api.Bundle{with(4, 4, 4, 4, 4, 4)}) {
			want := valueByDefinition(l, b) - costOf(p, b)
			seen[want] = true
			expectUtility(t, l, p, b, want)
		}
	}
	if len(seen) < 50 {
		t.Errorf("only %d utilities have been seen", len(seen))
	}
}

// Example 1: at the prices 0 the utility of a bundle is its value.
func TestUtilityAtNoPrices(t *testing.T) {
	source := newSource()
	for range 100 {
		l := someOffers(source, with(2, 2, 1), source.IntN(12))
		for _, b := range allWithin(with(2, 2, 1)) {
			expectUtility(t, l, at(), b, valueByDefinition(l, b))
		}
	}
}
