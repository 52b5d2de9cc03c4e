package bundle_test

import (
	"math"
	"math/rand/v2"

	"saleroom/api"
)

// Limits of the chapter.
const (
	units         = 4          // the greatest valid quantity
	packages      = 1024       // the greatest number of bundles within a supply
	moderate      = 1000000    // the greatest moderate quantity
	moderatePrice = 1000000000 // the greatest moderate price
)

// newSource returns a source of the same numbers in every run.
func newSource() *rand.Rand {
	return rand.New(rand.NewPCG(11, 12))
}

// with returns the bundle of the quantities, and 0 for the other products.
func with(quantities ...int) api.Bundle {
	var b api.Bundle
	copy(b[:], quantities)
	return b
}

// same returns the bundle with the same quantity of each product.
func same(quantity int) api.Bundle {
	return with(quantity, quantity, quantity, quantity, quantity, quantity)
}

// samePrice returns the prices that are the same for each product.
func samePrice(price int64) api.Prices {
	return api.Prices{price, price, price, price, price, price}
}

// wild are quantities that are not valid: next to the limits, valid or 0 modulo a power of 2, and extreme.
var wild = []int{
	-1, 5, -4, -5, 6, 7, 9, 10, 255, 256, 257, 260, -256, 65536, 1 << 32, 1<<32 + 2, -(1 << 32), 1 << 62, -(1 << 62),
	moderate, -moderate, math.MaxInt, math.MinInt, math.MaxInt - 1, math.MinInt + 1,
}

// someBundle returns a bundle of random quantities from least to most.
func someBundle(source *rand.Rand, least, most int) api.Bundle {
	var b api.Bundle
	for k := range b {
		b[k] = least + source.IntN(most-least+1)
	}
	return b
}

// anyBundle returns a bundle of which about half the quantities are valid.
func anyBundle(source *rand.Rand) api.Bundle {
	b := someBundle(source, 0, units)
	for k := range b {
		if source.IntN(2) == 0 {
			b[k] = wild[source.IntN(len(wild))]
		}
	}
	return b
}

// eachUpTo calls use with every bundle within last in ascending order, product by product from the first one.
func eachUpTo(last api.Bundle, use func(api.Bundle)) {
	var choose func(api.Bundle, int)
	choose = func(b api.Bundle, k int) {
		if k == len(b) {
			use(b)
			return
		}
		for b[k] = 0; b[k] <= last[k]; b[k]++ {
			choose(b, k+1)
		}
	}
	choose(api.Bundle{}, 0)
}

// listUpTo returns the bundles within last in ascending order.
func listUpTo(last api.Bundle) []api.Bundle {
	all := make([]api.Bundle, 0, countUpTo(last))
	eachUpTo(last, func(b api.Bundle) { all = append(all, b) })
	return all
}

// eachValid calls use with every valid bundle.
func eachValid(use func(api.Bundle)) {
	eachUpTo(same(units), use)
}

// countUpTo returns the number of bundles within last.
func countUpTo(last api.Bundle) int {
	count := 1
	for _, quantity := range last {
		count *= quantity + 1
	}
	return count
}

// eachSupply calls use with every supply and the bundles within it in ascending order.
func eachSupply(use func(api.Bundle, []api.Bundle)) {
	eachValid(func(supply api.Bundle) {
		if countUpTo(supply) <= packages {
			use(supply, listUpTo(supply))
		}
	})
}

// eachInvalid calls use with bundles of which one quantity or several ones are not valid.
func eachInvalid(use func(api.Bundle)) {
	for _, quantity := range wild {
		for k := range api.MaxProducts {
			for _, others := range []int{0, 1, units} {
				b := same(others)
				b[k] = quantity
				use(b)
			}
		}
		use(same(quantity))
		use(with(quantity, 5))
		use(with(quantity, quantity))
		use(with(0, quantity, 0, 0, -1))
	}
}

// noSupplies are valid bundles within which there are more than 1024 bundles, some of them few more.
var noSupplies = []api.Bundle{
	with(4, 3, 2, 2, 2, 1), // 1080
	with(1, 2, 2, 2, 3, 4), // 1080
	with(4, 4, 4, 2, 2),    // 1125
	with(4, 4, 4, 4, 1),    // 1250
	with(3, 3, 3, 3, 4),    // 1280
	with(3, 3, 3, 3, 3, 1), // 2048
	with(0, 4, 4, 4, 4, 4), // 3125
	with(3, 3, 3, 3, 3, 3), // 4096
	with(4, 4, 4, 4, 4, 4), // 15625
}
