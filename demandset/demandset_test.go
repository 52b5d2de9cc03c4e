package demandset_test

import (
	"math/rand/v2"
	"slices"
	"testing"

	"saleroom/api"
	"saleroom/demandset"
)

// expectDemand expects the result of Demand, and the first bundle of it from Best.
func expectDemand(t *testing.T, l []api.Offer, supply api.Bundle, p api.Prices, utility int64, want ...api.Bundle) {
	t.Helper()
	if got := demandset.Demand(l, supply, p); !slices.Equal(got, want) {
		t.Errorf("Demand(%v, %v, %v) = %v, want %v", l, supply, p, got, want)
	}
	if got, most := demandset.Best(l, supply, p); got != want[0] || most != utility {
		t.Errorf("Best(%v, %v, %v) = %v, %d, want %v, %d", l, supply, p, got, most, want[0], utility)
	}
}

// expectNoDemand expects that there are no bundles to choose from.
func expectNoDemand(t *testing.T, l []api.Offer, supply api.Bundle, p api.Prices) {
	t.Helper()
	if got := demandset.Demand(l, supply, p); len(got) != 0 {
		t.Errorf("Demand(%v, %v, %v) = %v", l, supply, p, got)
	}
	if got, utility := demandset.Best(l, supply, p); got != (api.Bundle{}) || utility != 0 {
		t.Errorf("Best(%v, %v, %v) = %v, %d", l, supply, p, got, utility)
	}
}

// P15.2, P15.3: the example of the chapter, and others at other prices
func TestBestAndDemand(t *testing.T) {
	two := []api.Offer{bid(10, 1), bid(12, 1, 1)}
	expectDemand(t, two, with(1, 1), at(3, 2), 7, with(1), with(1, 1))
	expectDemand(t, two, with(1, 1), at(3, 1), 8, with(1, 1))
	expectDemand(t, two, with(1, 1), at(3, 3), 7, with(1))
	expectDemand(t, two, with(1, 1), at(10, 2), 0, with(), with(1), with(1, 1))
	expectDemand(t, two, with(1, 1), at(10, 1), 1, with(1, 1))
	expectDemand(t, two, with(1, 1), at(11, 1), 0, with(), with(1, 1))
	expectDemand(t, two, with(1, 1), at(11, 2), 0, with())
	expectDemand(t, two, with(1, 1), at(), 12, with(1, 1))
	expectDemand(t, two, with(1, 1), at(most, most), 0, with())
	expectDemand(t, two, with(1), at(3, 2), 7, with(1))
	expectDemand(t, two, with(0, 1), at(3, 2), 0, with())
	expectDemand(t, two, with(), at(3, 2), 0, with())
	expectDemand(t, two, with(2, 1), at(0, 2), 10, with(1), with(1, 1), with(2), with(2, 1))
	expectDemand(t, two, with(2, 2), at(0, 1), 11, with(1, 1), with(2, 1))
	either := []api.Offer{bid(5, 1), bid(5, 0, 1)}
	expectDemand(t, either, with(1, 1), at(2, 2), 3, with(0, 1), with(1))
	expectDemand(t, either, with(1, 1), at(1, 2), 4, with(1))
	expectDemand(t, either, with(1, 1), at(2, 1), 4, with(0, 1))
	expectDemand(t, either, with(1, 1), at(5, 5), 0, with(), with(0, 1), with(1))
	expectDemand(t, []api.Offer{bid(1000000, 4, 4, 4)}, with(4, 4, 4), at(0, 0, most/4), 0,
		with(), with(0, 1), with(0, 2), with(0, 3), with(0, 4), with(1), with(1, 1), with(1, 2), with(1, 3), with(1, 4),
		with(2), with(2, 1), with(2, 2), with(2, 3), with(2, 4), with(3), with(3, 1), with(3, 2), with(3, 3), with(3, 4),
		with(4), with(4, 1), with(4, 2), with(4, 3), with(4, 4), with(4, 4, 4))
}

// P15.2, P15.3: without offers that count, units that cost nothing are demanded as well as none.
func TestDemandWithoutOffers(t *testing.T) {
	expectDemand(t, nil, with(1, 1), at(1, 1), 0, with())
	expectDemand(t, nil, with(1, 1), at(), 0, with(), with(0, 1), with(1), with(1, 1))
	expectDemand(t, nil, with(1, 1), at(0, 1), 0, with(), with(1))
	expectDemand(t, []api.Offer{}, with(1, 2), at(1), 0, with(), with(0, 1), with(0, 2))
	for _, bad := range badOffers() {
		expectDemand(t, []api.Offer{bad}, with(1, 1), at(1), 0, with(), with(0, 1))
		expectDemand(t, []api.Offer{bad, bid(3, 1), bad}, with(2, 1), at(1, 1), 2, with(1))
	}
	expectDemand(t, badOffers(), with(1, 1, 1, 1, 1, 1), at(1, 1, 1, 1, 1, 1), 0, with())
}

// P15.2, P15.3: the price of a product that is not for sale does not matter, as long as it is valid.
func TestDemandWithinSupply(t *testing.T) {
	l := []api.Offer{bid(5, 1), bid(100, 1, 1), bid(7, 3)}
	expectDemand(t, l, with(2), at(1, 0), 4, with(1))
	expectDemand(t, l, with(2), at(1, most, most, most, most, most), 4, with(1))
	expectDemand(t, l, with(3), at(1, 5), 4, with(1), with(3))
	expectDemand(t, l, with(3, 1), at(1, 5), 94, with(1, 1))
}

// P15.2, P15.3: an offer on the empty bundle makes no difference but for the utility.
func TestDemandWithEmptyBundle(t *testing.T) {
	l := []api.Offer{bid(4), bid(10, 1)}
	expectDemand(t, l, with(2), at(3), 7, with(1))
	expectDemand(t, l, with(2), at(6), 4, with(), with(1))
	expectDemand(t, l, with(2), at(7), 4, with())
	expectDemand(t, l, with(), at(7), 4, with())
}

// P15.2, P15.3: what is not a supply, and prices that are not valid
func TestDemandOfInvalidArguments(t *testing.T) {
	l := []api.Offer{bid(5), bid(10, 1), bid(most, 4, 3, 2)}
	for _, supply := range slices.Concat(noSupplies, badBundles()) {
		expectNoDemand(t, l, supply, at())
		expectNoDemand(t, l, supply, at(3, 2))
		expectNoDemand(t, l, supply, at(-1))
	}
	for _, p := range badPrices() {
		expectNoDemand(t, l, with(1, 1), p)
		expectNoDemand(t, l, with(), p)
		expectNoDemand(t, nil, with(1, 1), p)
	}
}

// P15.2, P15.3: random lists, by the definition
func TestDemandByDefinition(t *testing.T) {
	source := newSource()
	several, empty := 0, 0
	for i := range 1400 {
		supply := supplies[i%len(supplies)]
		l := someOffers(source, supply, source.IntN(41))
		p := somePrices(source, source.Int64N(7))
		want, utility := demandByDefinition(l, supply, p)
		if len(want) > 1 {
			several++
		}
		if want[0] == with() {
			empty++
		}
		expectDemand(t, l, supply, p, utility, want...)
	}
	if several < 300 || empty < 100 || empty > 1300 {
		t.Errorf("%d times several bundles are demanded, and %d times the empty one", several, empty)
	}
}

// P15.2, P15.3: high values and prices, by the definition
func TestDemandAtHighPrices(t *testing.T) {
	source := newSource()
	for range 300 {
		supply := with(2, 2, 1)
		l := someOffers(source, supply, 12)
		for i := range l {
			l[i].Value *= most / 16
		}
		p := somePrices(source, source.Int64N(most))
		want, utility := demandByDefinition(l, supply, p)
		expectDemand(t, l, supply, p, utility, want...)
	}
}

// P15.4: a path by hand
func TestPath(t *testing.T) {
	two := []api.Offer{bid(10, 1), bid(12, 1, 1)}
	prices := []api.Prices{at(3, 2), at(3, 1), at(10, 1), at(-1), at(10, 2), at(), at(3, 2), at(0, 0, most+1)}
	want := []api.Choice{
		{Prices: at(3, 2), Want: with(1)},
		{Prices: at(3, 1), Want: with(1, 1)},
		{Prices: at(10, 1), Want: with(1, 1)},
		{Prices: at(-1)},
		{Prices: at(10, 2)},
		{Prices: at(), Want: with(1, 1)},
		{Prices: at(3, 2), Want: with(1)},
		{Prices: at(0, 0, most+1)},
	}
	if got := demandset.Path(two, with(1, 1), prices); !slices.Equal(got, want) {
		t.Errorf("Path = %v, want %v", got, want)
	}
}

// P15.4: no prices, no offers, no supply, and prices that are not valid
func TestPathOfInvalidArguments(t *testing.T) {
	l := []api.Offer{bid(10, 1)}
	if got := demandset.Path(l, with(1), nil); len(got) != 0 {
		t.Errorf("the path of no prices is %v", got)
	}
	expectEmpty := func(l []api.Offer, supply api.Bundle, prices ...api.Prices) {
		t.Helper()
		var want []api.Choice
		for _, p := range prices {
			want = append(want, api.Choice{Prices: p})
		}
		if got := demandset.Path(l, supply, prices); !slices.Equal(got, want) {
			t.Errorf("Path(%v, %v, %v) = %v", l, supply, prices, got)
		}
	}
	expectEmpty(nil, with(1), at(), at(1), at(2))
	expectEmpty(badOffers(), with(1), at(), at(1), at(2))
	expectEmpty(l, with(4), badPrices()...)
	for _, supply := range slices.Concat(noSupplies, badBundles()) {
		expectEmpty(l, supply, at(), at(1), at(-1))
	}
}

// somePath returns random prices, of which each is higher than the one before in one or two products.
func somePath(source *rand.Rand, length int) []api.Prices {
	prices := []api.Prices{somePrices(source, 3)}
	for range length - 1 {
		p := prices[len(prices)-1]
		p[source.IntN(3)] += source.Int64N(3)
		p[source.IntN(3)] += source.Int64N(3)
		prices = append(prices, p)
	}
	return prices
}

// P15.4: each choice is that of Best at its prices.
func TestPathOfBest(t *testing.T) {
	source := newSource()
	for i := range 140 {
		supply := supplies[i%len(supplies)]
		l := someOffers(source, supply, source.IntN(20))
		prices := somePath(source, source.IntN(12)+1)
		path := demandset.Path(l, supply, prices)
		if len(path) != len(prices) {
			t.Fatalf("Path of %d prices has %d choices", len(prices), len(path))
		}
		for j, choice := range path {
			want, _ := demandset.Best(l, supply, prices[j])
			first, _ := demandByDefinition(l, supply, prices[j])
			if choice.Prices != prices[j] || choice.Want != want || want != first[0] {
				t.Fatalf("choice %d of Path(%v, %v, %v) is %v, want %v", j, l, supply, prices, choice, want)
			}
		}
	}
}
