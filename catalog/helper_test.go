package catalog_test

import (
	"math"
	"math/rand/v2"
	"strconv"

	"saleroom/api"
)

// Limits of the chapter.
const (
	products = 6       // the greatest number of products
	units    = 4       // the greatest supply
	packages = 1024    // the greatest number of bundles within the supply
	value    = 1000000 // the greatest reserve
	points   = 1000    // the greatest number of points
	classes  = 4       // the greatest group
)

// newSource returns a source of the same numbers in every run.
func newSource() *rand.Rand {
	return rand.New(rand.NewPCG(13, 14))
}

// with returns the bundle of the quantities, and 0 for the other products.
func with(quantities ...int) api.Bundle {
	var b api.Bundle
	copy(b[:], quantities)
	return b
}

// same returns the bundle with the same quantity of each product.
func same(quantity int) api.Bundle {
	return with(quantity, quantity, quantity, quantity, quantity, quantity)
}

// example returns the products of the chapter's examples.
func example() []api.Product {
	return []api.Product{{Name: "a", Supply: 2, Points: 2}, {Name: "b", Supply: 2, Points: 3}}
}

// list returns products with these supplies, whose other fields differ.
func list(supplies ...int) []api.Product {
	var l []api.Product
	for k, supply := range supplies {
		l = append(l, api.Product{Name: "p" + strconv.Itoa(k), Supply: supply, Reserve: int64(100 + k), Points: 10 + k, Group: k % 5})
	}
	return l
}

// eachSupplies calls use with the supplies of every list of one to six products with valid supplies.
func eachSupplies(use func([]int)) {
	var extend func([]int)
	extend = func(supplies []int) {
		if len(supplies) > 0 {
			use(supplies)
		}
		if len(supplies) == products {
			return
		}
		for supply := 1; supply <= units; supply++ {
			extend(append(supplies[:len(supplies):len(supplies)], supply))
		}
	}
	extend(nil)
}

// eachBundle calls use with every valid bundle.
func eachBundle(use func(api.Bundle)) {
	var choose func(api.Bundle, int)
	choose = func(b api.Bundle, k int) {
		if k == len(b) {
			use(b)
			return
		}
		for b[k] = 0; b[k] <= units; b[k]++ {
			choose(b, k+1)
		}
	}
	choose(api.Bundle{}, 0)
}

// someBundle returns a random valid bundle.
func someBundle(source *rand.Rand) api.Bundle {
	var b api.Bundle
	for k := range b {
		b[k] = source.IntN(units + 1)
	}
	return b
}

// someName returns a name that no other k has.
func someName(source *rand.Rand, k int) string {
	return []string{"a", "b_", "product", "x1", "abcdefghij", "z_9"}[source.IntN(6)] + strconv.Itoa(k)
}

// someList returns a random valid list of up to five products.
func someList(source *rand.Rand) []api.Product {
	var l []api.Product
	for k := range 1 + source.IntN(5) {
		l = append(l, api.Product{
			Name:    someName(source, k),
			Supply:  1 + source.IntN(3),
			Reserve: source.Int64N(value + 1),
			Points:  source.IntN(points + 1),
			Group:   source.IntN(classes + 1),
		})
	}
	return l
}

// wild are numbers that are out of every range of the chapter, some of them in range modulo a power of 2.
var wild = []int{-1, -2, -256, 1<<32 + 1, 1<<32 + 2, -(1 << 32), 1 << 62, math.MaxInt, math.MinInt, math.MinInt + 1}

// badNames are no names.
var badNames = []string{"", "A", "1", "1a", "_a", "a ", " a", "a-b", "ab{", "a:1", "aB", "ä", "a\x00", "a\n", "a\x80", "abcdefghijklm", "*"}

// fault is a change of a product that gives its list an error.
type fault struct {
	name  string
	err   api.Errno
	apply func(*api.Product)
}

// faults are all kinds of errors that a product can have by itself, with the first and with extreme numbers out of range.
func faults() []fault {
	var all []fault
	add := func(name string, e api.Errno, apply func(*api.Product)) {
		all = append(all, fault{name, e, apply})
	}
	for _, name := range badNames {
		add("the name "+name, api.ErrName, func(p *api.Product) { p.Name = name })
	}
	for _, n := range append([]int{0, units + 1, 2 * units, 256 + 1}, wild...) {
		add("the supply "+strconv.Itoa(n), api.ErrRange, func(p *api.Product) { p.Supply = n })
	}
	for _, n := range append([]int{value + 1, 1<<32 + value}, wild...) {
		add("the reserve "+strconv.Itoa(n), api.ErrRange, func(p *api.Product) { p.Reserve = int64(n) })
	}
	for _, n := range append([]int{points + 1, 1 << 16}, wild...) {
		add("the points "+strconv.Itoa(n), api.ErrRange, func(p *api.Product) { p.Points = n })
	}
	for _, n := range append([]int{classes + 1, 256 + 1}, wild...) {
		add("the group "+strconv.Itoa(n), api.ErrRange, func(p *api.Product) { p.Group = n })
	}
	return all
}

// badList is a list that is not valid, with its error.
type badList struct {
	l   []api.Product
	err api.Errno
}

// badLists are lists with each error of Check. Where they have a product a, it is one that could be looked up.
func badLists() []badList {
	l := []badList{
		{nil, api.ErrShort},
		{[]api.Product{}, api.ErrShort},
		{append(list(1, 1, 1, 1, 1, 1), example()...), api.ErrLong},
		{make([]api.Product, 7), api.ErrLong},
		{append(list(1, 1, 1, 1, 1, 1), api.Product{}), api.ErrLong},
		{make([]api.Product, 6), api.ErrName},
		{append(example(), example()...), api.ErrExists},
		{list(4, 3, 2, 2, 2, 1), api.ErrLimit},
	}
	for _, f := range faults() {
		one := example()
		f.apply(&one[1])
		l = append(l, badList{one, f.err})
	}
	return l
}

// badBundles are bundles that are not valid.
func badBundles() []api.Bundle {
	var all []api.Bundle
	for _, quantity := range append([]int{5, 6, 8, 9, 255, 256}, wild...) {
		for k := range products {
			b := with(1, 2)
			b[k] = quantity
			all = append(all, b)
		}
		all = append(all, same(quantity))
	}
	return all
}
