package demandset_test

import (
	"math"
	"math/rand/v2"
	"slices"

	"saleroom/api"
)

// Limits of the chapter and of the layers below.
const (
	units = 4       // the most units of a product
	most  = 1000000 // the greatest value, and the greatest price
)

// newSource returns a source of the same numbers in every run.
func newSource() *rand.Rand {
	return rand.New(rand.NewPCG(15, 36))
}

// with returns the bundle of the quantities, and 0 for the other products.
func with(quantities ...int) api.Bundle {
	var b api.Bundle
	copy(b[:], quantities)
	return b
}

// at returns the prices, and 0 for the other products.
func at(prices ...int64) api.Prices {
	var p api.Prices
	copy(p[:], prices)
	return p
}

// bid returns the offer of the value for the bundle of the quantities.
func bid(value int64, quantities ...int) api.Offer {
	return api.Offer{Want: with(quantities...), Value: value}
}

// wild are quantities, values and prices that overflow or are small modulo a power of 2.
var wild = []int{math.MinInt, math.MinInt + 1, -1 << 32, 1 << 32, 1<<32 + 1, math.MaxInt - 1, math.MaxInt}

// badBundles are bundles that are not valid.
func badBundles() []api.Bundle {
	var all []api.Bundle
	for _, quantity := range append([]int{-1, -units, units + 1, 6, 256}, wild...) {
		for k := range api.MaxProducts {
			for _, b := range []api.Bundle{with(), with(1, 1), with(1, 1, 1, 1, 1, 1)} {
				b[k] = quantity
				all = append(all, b)
			}
		}
	}
	return all
}

// badPrices are prices that are not valid.
func badPrices() []api.Prices {
	var all []api.Prices
	for _, price := range append([]int{-1, -most, most + 1, 2 * most}, wild...) {
		for k := range api.MaxProducts {
			for _, p := range []api.Prices{at(), at(1, 1), at(1, 1, 1, 1, 1, 1), at(most, most, most, most, most, most)} {
				p[k] = int64(price)
				all = append(all, p)
			}
		}
	}
	return all
}

// badOffers are offers that do not count.
func badOffers() []api.Offer {
	all := []api.Offer{bid(0, 1), bid(0), bid(-1, 1), bid(-1), bid(-most, 1), bid(most+1, 1), bid(most + 1), bid(2*most, 0, 1)}
	for _, value := range wild {
		all = append(all, bid(int64(value), 1), bid(int64(value)))
	}
	for _, b := range badBundles() {
		all = append(all, api.Offer{Want: b, Value: 9})
	}
	return all
}

// noSupplies are valid bundles within which there are more than 1024 bundles, some of them few more.
var noSupplies = []api.Bundle{
	with(4, 3, 2, 2, 2, 1), // 1080
	with(1, 2, 2, 2, 3, 4), // 1080
	with(4, 4, 4, 2, 2),    // 1125
	with(4, 4, 4, 4, 4, 4), // 15625
}

// supplies are bundles within which there are 1 to 1024 bundles.
var supplies = []api.Bundle{
	with(), with(1), with(4), with(0, 0, 0, 0, 0, 3), with(1, 1), with(2, 2), with(0, 2, 0, 1), with(4, 4), with(1, 1, 1), with(3, 1, 2),
	with(1, 1, 1, 1, 1, 1), with(2, 2, 2, 2, 2, 2), with(4, 4, 4, 3, 1), with(3, 3, 3, 3, 3),
}

// someBundle returns a random bundle within last.
func someBundle(source *rand.Rand, last api.Bundle) api.Bundle {
	var b api.Bundle
	for k := range b {
		b[k] = source.IntN(last[k] + 1)
	}
	return b
}

// somePrices returns random prices from 0 to highest.
func somePrices(source *rand.Rand, highest int64) api.Prices {
	var p api.Prices
	for k := range p {
		p[k] = source.Int64N(highest + 1)
	}
	return p
}

// someOffers returns random offers of values up to 16 for bundles within last; a few of them do not count.
func someOffers(source *rand.Rand, last api.Bundle, count int) []api.Offer {
	bad := badOffers()
	l := make([]api.Offer, 0, count)
	for range count {
		offer := api.Offer{Bidder: source.IntN(3), Want: someBundle(source, last), Value: 1 + source.Int64N(16)}
		if source.IntN(8) == 0 {
			offer = bad[source.IntN(len(bad))]
		}
		l = append(l, offer)
	}
	return l
}

// allWithin returns the bundles within last in the order of their ranks: the last product changes first.
func allWithin(last api.Bundle) []api.Bundle {
	var all []api.Bundle
	var choose func(api.Bundle, int)
	choose = func(b api.Bundle, k int) {
		if k == len(b) {
			all = append(all, b)
			return
		}
		for b[k] = 0; b[k] <= last[k]; b[k]++ {
			choose(b, k+1)
		}
	}
	choose(api.Bundle{}, 0)
	return all
}

// isWithin reports whether no quantity of a is greater than that of b.
func isWithin(a, b api.Bundle) bool {
	for k := range a {
		if a[k] > b[k] {
			return false
		}
	}
	return true
}

// isValid reports whether the quantities are from 0 to 4.
func isValid(b api.Bundle) bool {
	return isWithin(with(), b) && isWithin(b, with(units, units, units, units, units, units))
}

// costOf returns what b costs at p.
func costOf(p api.Prices, b api.Bundle) int64 {
	var cost int64
	for k, quantity := range b {
		for range quantity {
			cost += p[k]
		}
	}
	return cost
}

// valueByDefinition returns the greatest value of the offers that count and are within a valid bundle, or 0.
func valueByDefinition(l []api.Offer, b api.Bundle) int64 {
	values := []int64{0}
	for _, offer := range l {
		if isValid(offer.Want) && 1 <= offer.Value && offer.Value <= most && isWithin(offer.Want, b) {
			values = append(values, offer.Value)
		}
	}
	return slices.Max(values)
}

// demandByDefinition returns the bundles within a supply that have the greatest utility at valid prices, by rank, and that utility.
func demandByDefinition(l []api.Offer, supply api.Bundle, p api.Prices) ([]api.Bundle, int64) {
	byUtility := map[int64][]api.Bundle{}
	var utilities []int64
	for _, b := range allWithin(supply) {
		utility := valueByDefinition(l, b) - costOf(p, b)
		utilities = append(utilities, utility)
		byUtility[utility] = append(byUtility[utility], b)
	}
	greatest := slices.Max(utilities)
	return byUtility[greatest], greatest
}
