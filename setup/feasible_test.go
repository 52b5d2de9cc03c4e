package setup_test

import (
	"math/rand/v2"
	"slices"
	"testing"

	"saleroom/api"
	"saleroom/setup"
)

// expectOpen expects the open units and the classes from Open(s).
func expectOpen(t *testing.T, s api.Setup, open, class api.Bundle) {
	t.Helper()
	if gotOpen, gotClass := setup.Open(s); gotOpen != open || gotClass != class {
		t.Errorf("Open(%v) = %v, %v, want %v, %v", s, gotOpen, gotClass, open, class)
	}
}

// P10.3: products with and without a set-aside, and with one of all units
func TestOpen(t *testing.T) {
	expectOpen(t, example(), with(1), with(1))
	expectOpen(t, sale(), with(1, 0, 1), with(1, 2, 0))
	expectOpen(t, largest(), with(3, 2, 1, 1, 0, 0), with(4, 4, 4, 4, 4, 4))
	s := largest()
	s.Asides = nil
	expectOpen(t, s, with(4, 3, 2, 2, 1, 1), with())
	s.Asides = []api.Aside{{Product: 5, Class: 2, Units: 1}}
	expectOpen(t, s, with(4, 3, 2, 2, 1, 0), with(0, 0, 0, 0, 0, 2))
	for class := 1; class <= classes; class++ {
		for reserved := 1; reserved <= units; reserved++ {
			s.Asides = []api.Aside{{Product: 0, Class: class, Units: reserved}}
			expectOpen(t, s, with(4-reserved, 3, 2, 2, 1, 1), with(class))
		}
	}
}

// P10.3: both bundles are empty if Check returns an error.
func TestOpenOfBadSetups(t *testing.T) {
	badSetups(func(s api.Setup, _ api.Errno) { expectOpen(t, s, with(), with()) })
	expectOpen(t, api.Setup{}, with(), with())
}

// expectAllowed expects the error from Allowed(s, bidder, b).
func expectAllowed(t *testing.T, s api.Setup, bidder int, b api.Bundle, want api.Errno) {
	t.Helper()
	if got := setup.Allowed(s, bidder, b); got != want {
		t.Errorf("Allowed(%v, %d, %v) = %v, want %v", s, bidder, b, got, want)
	}
}

// P10.4: the example of the chapter
func TestAllowed(t *testing.T) {
	s := example()
	expectAllowed(t, s, 1, with(2), api.OK)
	expectAllowed(t, s, 0, with(2), api.ErrRule)
	expectAllowed(t, s, 0, with(1), api.OK)
	expectAllowed(t, s, 0, with(), api.OK)
	expectAllowed(t, s, 1, with(), api.OK)
	expectAllowed(t, s, 1, with(3), api.ErrRule)
	s.Asides[0].Units = 2
	expectAllowed(t, s, 0, with(1), api.ErrRule)
	expectAllowed(t, s, 0, with(), api.OK)
	expectAllowed(t, s, 1, with(2), api.OK)
	s.Asides[0].Class = 2
	expectAllowed(t, s, 1, with(1), api.ErrRule)
}

// P10.4: caps for every bidder and for one bidder, set-asides, and products without one, for bidders of all classes
func TestAllowedOfSale(t *testing.T) {
	s := sale()
	expectAllowed(t, s, 0, with(1, 0, 1), api.OK)
	expectAllowed(t, s, 0, with(2), api.ErrRule)
	expectAllowed(t, s, 0, with(0, 1), api.ErrRule)
	expectAllowed(t, s, 1, with(2, 0, 1), api.OK)
	expectAllowed(t, s, 1, with(0, 1), api.ErrRule)
	expectAllowed(t, s, 2, with(0, 3), api.OK)
	expectAllowed(t, s, 2, with(0, 2, 1), api.OK)
	expectAllowed(t, s, 2, with(0, 3, 1), api.ErrRule)
	expectAllowed(t, s, 2, with(1), api.ErrRule)
	s.Asides = nil
	expectAllowed(t, s, 0, with(2, 3), api.OK)
	expectAllowed(t, s, 0, with(2, 2, 1), api.OK)
	expectAllowed(t, s, 0, with(0, 3, 1), api.ErrRule)
	expectAllowed(t, s, 1, with(2, 2), api.OK)
	expectAllowed(t, s, 1, with(2, 1, 1), api.OK)
	expectAllowed(t, s, 1, with(2, 3), api.ErrRule)
	expectAllowed(t, s, 1, with(2, 2, 1), api.ErrRule)
	s.Caps = nil
	expectAllowed(t, s, 1, with(2, 3, 1), api.OK)
	expectAllowed(t, s, 1, with(2, 3, 2), api.ErrRule)
}

// P10.4: a product without a set-aside has no outsiders, although its class is 0.
func TestAllowedWithoutAside(t *testing.T) {
	s := example()
	s.Asides = nil
	for class := range classes + 1 {
		s.Bidders[1].Class = class
		expectAllowed(t, s, 1, with(2), api.OK)
	}
}

// P10.4: the bundle is not valid, or is not within the supply.
func TestAllowedOfBadBundles(t *testing.T) {
	s := sale()
	s.Caps, s.Asides = nil, nil
	for k := range products {
		for _, quantity := range append([]int{-1, 5, 6, 256}, wild...) {
			b := with(1)
			b[k] = quantity
			expectAllowed(t, s, 0, b, api.ErrRange)
		}
		for quantity := range units + 1 {
			var b api.Bundle
			b[k] = quantity
			want := api.OK
			if quantity > with(2, 3, 1)[k] {
				want = api.ErrRule
			}
			expectAllowed(t, s, 0, b, want)
		}
	}
	expectAllowed(t, s, 0, with(3, -1), api.ErrRange)
	expectAllowed(t, sale(), 2, with(0, 4, 5), api.ErrRange)
}

// P10.4: the error of Check comes first, then ErrNone, then the error of bundle.Check.
func TestAllowedErrors(t *testing.T) {
	badSetups(func(s api.Setup, want api.Errno) {
		expectAllowed(t, s, 0, with(), want)
		expectAllowed(t, s, -1, with(-1), want)
		expectAllowed(t, s, 8, with(5), want)
	})
	for _, bidder := range append([]int{-1, 3, 4, 8}, wild...) {
		expectAllowed(t, sale(), bidder, with(), api.ErrNone)
		expectAllowed(t, sale(), bidder, with(5), api.ErrNone)
		expectAllowed(t, sale(), bidder, with(4), api.ErrNone)
	}
	expectAllowed(t, sale(), 2, with(-1), api.ErrRange)
	expectAllowed(t, api.Setup{}, 0, with(), api.ErrShort)
}

// expectFeasible expects the error from Feasible(s, l), and the units that Remaining(s, l) leaves.
func expectFeasible(t *testing.T, s api.Setup, l []api.Bundle, want api.Errno, left ...int) {
	t.Helper()
	if got := setup.Feasible(s, l); got != want {
		t.Errorf("Feasible(%v, %v) = %v, want %v", s, l, got, want)
	}
	if got := setup.Remaining(s, l); got != with(left...) {
		t.Errorf("Remaining(%v, %v) = %v, want %v", s, l, got, left)
	}
}

// P10.4: the example of the chapter
func TestFeasible(t *testing.T) {
	s := example()
	expectFeasible(t, s, []api.Bundle{with(1), with(1)}, api.OK, 0)
	expectFeasible(t, s, []api.Bundle{with(), with()}, api.OK, 2)
	expectFeasible(t, s, []api.Bundle{with(1), with()}, api.OK, 1)
	expectFeasible(t, s, []api.Bundle{with(), with(1)}, api.OK, 1)
	expectFeasible(t, s, []api.Bundle{with(), with(2)}, api.OK, 0)
	expectFeasible(t, s, []api.Bundle{with(1), with(2)}, api.ErrRule)
	s.Bidders[1].Class = 0
	expectFeasible(t, s, []api.Bundle{with(1), with(1)}, api.ErrRule)
	expectFeasible(t, s, []api.Bundle{with(1), with()}, api.OK, 1)
	expectFeasible(t, s, []api.Bundle{with(), with(1)}, api.OK, 1)
}

// P10.4: outsiders of several classes share the open units, and those of the class can have all units.
func TestFeasibleOfOutsiders(t *testing.T) {
	s := largest()
	s.Caps, s.Asides = nil, []api.Aside{{Product: 0, Class: 2, Units: 2}, {Product: 1, Class: 1, Units: 1}}
	s.Bidders = []api.Bidder{{Name: "none"}, {Name: "one", Class: 1}, {Name: "two", Class: 2}, {Name: "three", Class: 3}}
	expectFeasible(t, s, []api.Bundle{with(1), with(1), with(2), with()}, api.OK, 0, 3, 2, 2, 1, 1)
	expectFeasible(t, s, []api.Bundle{with(1), with(), with(2), with(1)}, api.OK, 0, 3, 2, 2, 1, 1)
	expectFeasible(t, s, []api.Bundle{with(1), with(1), with(), with(1)}, api.ErrRule)
	expectFeasible(t, s, []api.Bundle{with(1), with(1), with(1), with(1)}, api.ErrRule)
	expectFeasible(t, s, []api.Bundle{with(), with(), with(4), with()}, api.OK, 0, 3, 2, 2, 1, 1)
	expectFeasible(t, s, []api.Bundle{with(), with(1), with(4), with()}, api.ErrRule)
	expectFeasible(t, s, []api.Bundle{with(0, 1), with(0, 1), with(0, 1), with()}, api.OK, 4, 0, 2, 2, 1, 1)
	expectFeasible(t, s, []api.Bundle{with(0, 1), with(0, 0), with(0, 1), with(0, 1)}, api.ErrRule)
	expectFeasible(t, s, []api.Bundle{with(1, 1, 1), with(1, 1, 0, 1), with(2, 0, 0, 1, 1), with(0, 1, 1, 0, 0, 1)}, api.OK)
	expectFeasible(t, s, []api.Bundle{with(0, 0, 1), with(0, 0, 1), with(), with(0, 0, 1)}, api.ErrRule)
	expectFeasible(t, s, []api.Bundle{with(0, 0, 0, 0, 0, 1), with(), with(), with(0, 0, 0, 0, 0, 1)}, api.ErrRule)
}

// P10.4: caps limit each bidder, and not the bidders together.
func TestFeasibleOfCaps(t *testing.T) {
	s := sale()
	s.Asides = nil
	s.Caps = []api.Cap{{Bidder: -1, Group: 1, Units: 2}, {Bidder: 0, Group: 0, Units: 1}}
	expectFeasible(t, s, []api.Bundle{with(1, 1, 1), with(0, 1), with(1, 1)}, api.OK)
	expectFeasible(t, s, []api.Bundle{with(1), with(0, 2), with(1, 1, 1)}, api.OK)
	expectFeasible(t, s, []api.Bundle{with(2), with(), with()}, api.ErrRule)
	expectFeasible(t, s, []api.Bundle{with(), with(2), with()}, api.OK, 0, 3, 1)
	expectFeasible(t, s, []api.Bundle{with(), with(0, 2, 1), with()}, api.ErrRule)
	expectFeasible(t, s, []api.Bundle{with(), with(), with(0, 3)}, api.ErrRule)
}

// P10.4: the error of Check comes first, then ErrLong, then the first error of Allowed, then the sums.
func TestFeasibleErrors(t *testing.T) {
	badSetups(func(s api.Setup, want api.Errno) {
		expectFeasible(t, s, make([]api.Bundle, 3), want)
		expectFeasible(t, s, nil, want)
		expectFeasible(t, s, []api.Bundle{with(5), with(5), with(5)}, want)
	})
	for _, n := range []int{0, 1, 2, 4, 5, 8, 9, 1000} {
		expectFeasible(t, sale(), make([]api.Bundle, n), api.ErrLong)
		expectFeasible(t, sale(), slices.Repeat([]api.Bundle{with(5)}, n), api.ErrLong)
		expectFeasible(t, sale(), slices.Repeat([]api.Bundle{with(2)}, n), api.ErrLong)
	}
	expectFeasible(t, api.Setup{}, nil, api.ErrShort)
	s := sale()
	expectFeasible(t, s, []api.Bundle{with(1), with(1), with(0, 5)}, api.ErrRange)
	expectFeasible(t, s, []api.Bundle{with(2), with(1), with(0, 5)}, api.ErrRule)
	expectFeasible(t, s, []api.Bundle{with(-1), with(4), with()}, api.ErrRange)
	expectFeasible(t, s, []api.Bundle{with(), with(2), with(0, 0, -1)}, api.ErrRange)
	expectFeasible(t, s, []api.Bundle{with(0, 0, 1), with(0, 0, 1), with(0, 0, -1)}, api.ErrRange)
	expectFeasible(t, s, []api.Bundle{with(0, 0, 1), with(0, 0, 1), with()}, api.ErrRule)
}

// rules reports, product by product and cap by cap, whether bidder i of a valid setup may win b.
func rules(s api.Setup, i int, b api.Bundle) bool {
	for k, quantity := range b {
		if k >= len(s.Products) && quantity > 0 || k < len(s.Products) && quantity > s.Products[k].Supply {
			return false
		}
	}
	for _, a := range s.Asides {
		if s.Bidders[i].Class != a.Class && b[a.Product]+a.Units > s.Products[a.Product].Supply {
			return false
		}
	}
	for _, c := range s.Caps {
		sum := 0
		for k, p := range s.Products {
			if p.Group == c.Group {
				sum += b[k]
			}
		}
		if (c.Bidder == i || c.Bidder < 0) && sum > c.Units {
			return false
		}
	}
	return true
}

// together reports, product by product, whether the bidders of a valid setup may win bundles that each of them may win, and
// what remains.
func together(s api.Setup, l []api.Bundle) (api.Bundle, bool) {
	var left api.Bundle
	for k, p := range s.Products {
		left[k] = p.Supply
		for _, b := range l {
			left[k] -= b[k]
		}
		if left[k] < 0 {
			return api.Bundle{}, false
		}
	}
	for _, a := range s.Asides {
		open := s.Products[a.Product].Supply - a.Units
		for i, b := range l {
			if s.Bidders[i].Class != a.Class {
				open -= b[a.Product]
			}
		}
		if open < 0 {
			return api.Bundle{}, false
		}
	}
	return left, true
}

// someBundle returns a random bundle of a few units, most of them of products that s has.
func someBundle(source *rand.Rand, s api.Setup, more int) api.Bundle {
	var b api.Bundle
	for source.IntN(more) > 0 {
		k := source.IntN(len(s.Products))
		if source.IntN(60) == 0 {
			k = source.IntN(products)
		}
		b[k] = min(b[k]+1, units)
	}
	return b
}

// P10.4: against the definitions
func TestManyBundles(t *testing.T) {
	source := newSource()
	seen := [2]int{}
	for range 20000 {
		s := someSetup(source)
		var l []api.Bundle
		all := true
		for i := range s.Bidders {
			b := someBundle(source, s, 3)
			l = append(l, b)
			want := api.OK
			if !rules(s, i, b) {
				want, all = api.ErrRule, false
			}
			expectAllowed(t, s, i, b, want)
		}
		if left, fit := together(s, l); all && fit {
			expectFeasible(t, s, l, api.OK, left[:]...)
			seen[0]++
		} else {
			expectFeasible(t, s, l, api.ErrRule)
			if all {
				seen[1]++
			}
		}
	}
	if seen[0] < 500 || seen[1] < 500 {
		t.Errorf("%d lists are feasible, and %d others have only bundles that are allowed", seen[0], seen[1])
	}
}
