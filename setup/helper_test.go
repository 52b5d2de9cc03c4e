package setup_test

import (
	"math"
	"math/rand/v2"
	"slices"
	"strconv"

	"saleroom/api"
)

// Limits of the chapter.
const (
	products = 6       // the greatest number of products and of set-asides
	units    = 4       // the greatest supply
	bidders  = 8       // the greatest number of bidders
	caps     = 16      // the greatest number of caps
	classes  = 4       // the greatest class and the greatest group
	most     = 24      // the greatest Units of a cap
	value    = 1000000 // the greatest reserve and the greatest budget
	textSize = 4000    // the greatest size of a text
)

// newSource returns a source of the same numbers in every run.
func newSource() *rand.Rand {
	return rand.New(rand.NewPCG(17, 18))
}

// with returns the bundle of the quantities, and 0 for the other products.
func with(quantities ...int) api.Bundle {
	var b api.Bundle
	copy(b[:], quantities)
	return b
}

// example returns the setup of the chapter's examples.
func example() api.Setup {
	return api.Setup{
		Products: []api.Product{{Name: "a", Supply: 2, Reserve: 3, Points: 1}},
		Bidders:  []api.Bidder{{Name: "x", Points: 2}, {Name: "y", Class: 1, Points: 2}},
		Asides:   []api.Aside{{Product: 0, Class: 1, Units: 1}},
	}
}

// exampleText is the text of the chapter's examples.
const exampleText = "product a 2 3 1 0\nbidder x 0 0 2\nbidder y 1 0 2\naside a 1 1\n"

// sale returns a setup with elements of every kind. The caps and set-asides are not in the order of the bidders and products.
func sale() api.Setup {
	return api.Setup{
		Products: []api.Product{
			{Name: "a", Supply: 2, Reserve: 3, Points: 1},
			{Name: "b", Supply: 3, Points: 5, Group: 1},
			{Name: "c", Supply: 1, Reserve: 7, Group: 1},
		},
		Bidders: []api.Bidder{
			{Name: "x", Points: 2},
			{Name: "y", Class: 1, Budget: 500, Points: 20},
			{Name: "z", Class: 2},
		},
		Caps:   []api.Cap{{Bidder: -1, Group: 1, Units: 3}, {Bidder: 2, Group: 0, Units: 0}, {Bidder: 1, Group: 1, Units: 2}},
		Asides: []api.Aside{{Product: 1, Class: 2, Units: 3}, {Product: 0, Class: 1, Units: 1}},
	}
}

// saleText is the text of sale.
const saleText = `product a 2 3 1 0
product b 3 0 5 1
product c 1 7 0 1
bidder x 0 0 2
bidder y 1 500 20
bidder z 2 0 0
cap * 1 3
cap z 0 0
cap y 1 2
aside b 2 3
aside a 1 1
`

// largest returns a setup with as many elements, and with numbers and names as long, as possible.
func largest() api.Setup {
	var s api.Setup
	for k := range products {
		s.Products = append(s.Products, api.Product{Name: "longproduct" + strconv.Itoa(k), Supply: []int{4, 3, 2, 2, 1, 1}[k], Reserve: value, Points: 1000, Group: classes})
		s.Asides = append(s.Asides, api.Aside{Product: products - 1 - k, Class: classes, Units: 1})
	}
	for i := range bidders {
		s.Bidders = append(s.Bidders, api.Bidder{Name: "long_bidder" + strconv.Itoa(i), Class: classes, Budget: value, Points: 24000})
	}
	for n := range caps {
		s.Caps = append(s.Caps, api.Cap{Bidder: bidders - 1 - n/2, Group: n % 2, Units: most})
	}
	return s
}

// copyOf returns a copy of s that shares no memory with it.
func copyOf(s api.Setup) api.Setup {
	return api.Setup{
		Products: slices.Clone(s.Products),
		Bidders:  slices.Clone(s.Bidders),
		Caps:     slices.Clone(s.Caps),
		Asides:   slices.Clone(s.Asides),
	}
}

// equal reports whether a and b describe the same sale.
func equal(a, b api.Setup) bool {
	return slices.Equal(a.Products, b.Products) && slices.Equal(a.Bidders, b.Bidders) && slices.Equal(a.Caps, b.Caps) && slices.Equal(a.Asides, b.Asides)
}

// isZero reports whether s has no elements.
func isZero(s api.Setup) bool {
	return equal(s, api.Setup{})
}

// someSetup returns a random valid setup.
func someSetup(source *rand.Rand) api.Setup {
	var s api.Setup
	for k := range 1 + source.IntN(4) {
		s.Products = append(s.Products, api.Product{
			Name:    []string{"a", "b_", "cap", "x"}[k],
			Supply:  1 + source.IntN(units),
			Reserve: source.Int64N(value + 1),
			Points:  source.IntN(1001),
			Group:   source.IntN(3),
		})
	}
	for i := range 1 + source.IntN(4) {
		s.Bidders = append(s.Bidders, api.Bidder{
			Name:   []string{"ann", "bidder", "x", "z9"}[i],
			Class:  source.IntN(3),
			Budget: source.Int64N(value + 1),
			Points: source.IntN(24001),
		})
	}
	for n := range source.Perm(3 * (len(s.Bidders) + 1)) {
		if source.IntN(4) == 0 {
			s.Caps = append(s.Caps, api.Cap{Bidder: n/3 - 1, Group: n % 3, Units: source.IntN(7)})
		}
	}
	for _, k := range source.Perm(len(s.Products)) {
		if source.IntN(2) == 0 {
			s.Asides = append(s.Asides, api.Aside{Product: k, Class: 1 + source.IntN(2), Units: 1 + source.IntN(s.Products[k].Supply)})
		}
	}
	return s
}

// wild are numbers that are out of every range of the chapter, some of them in range modulo a power of 2.
var wild = []int{-2, -3, -8, -256, 1<<32 + 1, 1<<32 + 2, -(1 << 32), 1 << 62, math.MaxInt, math.MinInt, math.MinInt + 1}

// badNames are no names.
var badNames = []string{"", "A", "1", "1a", "_a", "a-b", "ab{", "a:1", "aB", "ä", "a\x00", "a\r", "a\t", "a\x80", "abcdefghijklm", "*"}

// fault is a change of a setup that gives it an error.
type fault struct {
	name  string
	err   api.Errno
	apply func(*api.Setup)
}

// faults are the kinds of errors that sale can have, in the order in which Check looks for them.
func faults() []fault {
	var all []fault
	add := func(name string, e api.Errno, apply func(*api.Setup)) {
		all = append(all, fault{name, e, apply})
	}
	add("no products", api.ErrShort, func(s *api.Setup) { s.Products = nil })
	add("7 products", api.ErrLong, func(s *api.Setup) { s.Products = append(s.Products, make([]api.Product, 7-len(s.Products))...) })
	add("the name of a product", api.ErrName, func(s *api.Setup) { s.Products[2].Name = "C" })
	add("a product twice", api.ErrExists, func(s *api.Setup) { s.Products[2].Name = "a" })
	add("the reserve of a product", api.ErrRange, func(s *api.Setup) { s.Products[2].Reserve = value + 1 })
	add("too many bundles", api.ErrLimit, func(s *api.Setup) {
		for k := range s.Products {
			s.Products[k].Supply = units
		}
		s.Products = append(s.Products, api.Product{Name: "d", Supply: 4}, api.Product{Name: "e", Supply: 4})
	})
	add("no bidders", api.ErrShort, func(s *api.Setup) { s.Bidders = nil })
	add("9 bidders", api.ErrLong, func(s *api.Setup) { s.Bidders = append(s.Bidders, make([]api.Bidder, 9-len(s.Bidders))...) })
	add("the name of a bidder", api.ErrName, func(s *api.Setup) { s.Bidders[2].Name = "" })
	add("a bidder twice", api.ErrExists, func(s *api.Setup) { s.Bidders[2].Name = "x" })
	add("the budget of a bidder", api.ErrRange, func(s *api.Setup) { s.Bidders[2].Budget = -1 })
	add("17 caps", api.ErrLong, func(s *api.Setup) { s.Caps = append(s.Caps, make([]api.Cap, 17-len(s.Caps))...) })
	add("the bidder of a cap", api.ErrNone, func(s *api.Setup) { s.Caps[1].Bidder = 3 })
	add("the group of a cap", api.ErrRange, func(s *api.Setup) { s.Caps[1].Group = 5 })
	add("a cap twice", api.ErrExists, func(s *api.Setup) { s.Caps[1].Bidder, s.Caps[1].Group = -1, 1 })
	add("the bidder of the next cap", api.ErrNone, func(s *api.Setup) { s.Caps[2].Bidder = -2 })
	add("the units of the next cap", api.ErrRange, func(s *api.Setup) { s.Caps[2].Units = 25 })
	add("7 set-asides", api.ErrLong, func(s *api.Setup) { s.Asides = append(s.Asides, make([]api.Aside, 7-len(s.Asides))...) })
	add("the product of a set-aside", api.ErrNone, func(s *api.Setup) { s.Asides[0].Product = 3 })
	add("the units of a set-aside", api.ErrRange, func(s *api.Setup) { s.Asides[0].Units = 4 })
	add("the product of the next set-aside", api.ErrNone, func(s *api.Setup) { s.Asides[1].Product = -1 })
	add("the class of the next set-aside", api.ErrRange, func(s *api.Setup) { s.Asides[1].Class = 0 })
	add("a set-aside twice", api.ErrExists, func(s *api.Setup) { s.Asides[1].Product = 1 })
	return all
}

// badSetups calls use with a setup for each of the faults, and its error.
func badSetups(use func(api.Setup, api.Errno)) {
	for _, f := range faults() {
		s := sale()
		f.apply(&s)
		use(s, f.err)
	}
}
