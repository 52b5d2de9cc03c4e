package demandset_test

import (
	"slices"
	"testing"

	"saleroom/api"
	"saleroom/demandset"
)

// P15.5: no bundle has more utility than the best one, whose utility is not negative, and which is the first one demanded.
func TestBestIsBest(t *testing.T) {
	source := newSource()
	for i := range 280 {
		supply := supplies[i%len(supplies)]
		l := someOffers(source, supply, source.IntN(41))
		p := somePrices(source, source.Int64N(9))
		best, utility := demandset.Best(l, supply, p)
		if utility < 0 || utility != demandset.Utility(l, p, best) {
			t.Fatalf("Best(%v, %v, %v) = %v, %d", l, supply, p, best, utility)
		}
		demand := demandset.Demand(l, supply, p)
		if demand[0] != best {
			t.Fatalf("Demand(%v, %v, %v) begins with %v, want %v", l, supply, p, demand[0], best)
		}
		for _, b := range allWithin(supply) {
			if got := demandset.Utility(l, p, b); got > utility || (got == utility) != slices.Contains(demand, b) {
				t.Fatalf("%v has the utility %d at %v, the best one %d; %v are demanded", b, got, p, utility, demand)
			}
		}
	}
}

// gain returns what the bundle of b costs more than that of a at the prices of a.
func gain(a, b api.Choice) int64 {
	return costOf(a.Prices, b.Want) - costOf(a.Prices, a.Want)
}

// areConsistent reports whether there is no cycle of choices with a negative sum of gains.
func areConsistent(l []api.Choice) bool {
	sums := make([][]int64, len(l))
	for i, a := range l {
		for _, b := range l {
			sums[i] = append(sums[i], gain(a, b))
		}
	}
	for via := range l {
		for i := range l {
			for j := range l {
				sums[i][j] = min(sums[i][j], sums[i][via]+sums[via][j])
			}
		}
	}
	for i := range l {
		if sums[i][i] < 0 {
			return false
		}
	}
	return true
}

// P15.5: the choices of a path are consistent.
func TestPathIsConsistent(t *testing.T) {
	if areConsistent([]api.Choice{{Prices: at(1, 1), Want: with(1)}, {Prices: at(1, 2), Want: with(0, 1)}}) {
		t.Error("the choices of the chapter on revealed preference are not consistent")
	}
	source := newSource()
	wants := map[int]int{}
	for range 400 {
		supply := with(2, 2, 2)
		l := someOffers(source, supply, source.IntN(30))
		prices := somePath(source, 8)
		for range 8 {
			prices = append(prices, somePrices(source, 5))
		}
		path := demandset.Path(l, supply, prices)
		different := map[api.Bundle]bool{}
		for _, choice := range path {
			different[choice.Want] = true
		}
		wants[len(different)]++
		if !areConsistent(path) {
			t.Fatalf("Path(%v, %v, %v) = %v is not consistent", l, supply, prices, path)
		}
	}
	if len(wants) < 6 {
		t.Errorf("the paths have so many different bundles: %v", wants)
	}
}

// P15.5: the values, less that of the empty bundle, explain the choices of a path.
func TestPathIsExplained(t *testing.T) {
	source := newSource()
	for range 400 {
		supply := with(2, 1, 2)
		l := someOffers(source, supply, source.IntN(30))
		path := demandset.Path(l, supply, somePath(source, 10))
		value := func(c api.Choice) int64 { return valueByDefinition(l, c.Want) - valueByDefinition(l, with()) }
		for _, a := range path {
			if value(a) < costOf(a.Prices, a.Want) {
				t.Fatalf("%v costs more than its value under %v", a, l)
			}
			for _, b := range path {
				if value(b)-value(a) > gain(a, b) {
					t.Fatalf("%v is better than %v at the prices of the latter under %v", b, a, l)
				}
			}
		}
	}
}

// P15.5: if one price rises, no more units of the product are demanded.
func TestHigherPrice(t *testing.T) {
	source := newSource()
	fewer := 0
	for i := range 700 {
		supply := supplies[i%len(supplies)]
		l := someOffers(source, supply, source.IntN(41))
		before := somePrices(source, 4)
		after := before
		k := source.IntN(api.MaxProducts)
		after[k] += 1 + source.Int64N(4)
		first, _ := demandset.Best(l, supply, before)
		second, _ := demandset.Best(l, supply, after)
		if second[k] > first[k] {
			t.Fatalf("%v is demanded at %v and %v at %v under %v", first, before, second, after, l)
		}
		if second[k] < first[k] {
			fewer++
		}
	}
	if fewer < 50 {
		t.Errorf("only %d times fewer units are demanded", fewer)
	}
}

// R3: no function changes its arguments, nor their spare capacity.
func TestArgumentsStay(t *testing.T) {
	source := newSource()
	for range 200 {
		l := slices.Grow(someOffers(source, with(2, 2, 1), 12), 5)
		prices := slices.Grow(somePath(source, 8), 5)
		offers, all := slices.Clone(l[:cap(l)]), slices.Clone(prices[:cap(prices)])
		demandset.Utility(l[:6], prices[0], with(1, 1))
		demandset.Best(l[:6], with(2, 2, 1), prices[1])
		demandset.Demand(l[:6], with(2, 2, 1), prices[2])
		demandset.Path(l[:6], with(2, 2, 1), prices[:4])
		if !slices.Equal(l[:cap(l)], offers) || !slices.Equal(prices[:cap(prices)], all) {
			t.Fatalf("the offers become %v, and the prices %v", l[:cap(l)], prices[:cap(prices)])
		}
	}
}

// R3, R7: the results are new memory, and the same again, whatever the caller does with them.
func TestAgain(t *testing.T) {
	source := newSource()
	for range 50 {
		supply := with(2, 2, 1)
		l, prices := someOffers(source, supply, 12), somePath(source, 8)
		demand, path := demandset.Demand(l, supply, prices[0]), demandset.Path(l, supply, prices)
		oldDemand, oldPath := slices.Clone(demand), slices.Clone(path)
		for i := range demand {
			demand[i] = with(9)
		}
		for i := range path {
			path[i] = api.Choice{Prices: at(9), Want: with(9)}
		}
		if again := demandset.Demand(l, supply, prices[0]); !slices.Equal(again, oldDemand) {
			t.Fatalf("Demand is %v, and then %v", oldDemand, again)
		}
		if again := demandset.Path(l, supply, prices); !slices.Equal(again, oldPath) {
			t.Fatalf("Path is %v, and then %v", oldPath, again)
		}
	}
}

// P15.5: the order of the offers does not matter, nor do offers that occur again.
func TestOrderOfOffers(t *testing.T) {
	source := newSource()
	for range 100 {
		supply := with(2, 2, 1)
		l, p := someOffers(source, supply, 12), somePrices(source, 5)
		want, utility := demandByDefinition(l, supply, p)
		twice := slices.Concat(l, l)
		source.Shuffle(len(twice), func(i, j int) { twice[i], twice[j] = twice[j], twice[i] })
		expectDemand(t, twice, supply, p, utility, want...)
	}
}
