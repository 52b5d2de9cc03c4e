package setup_test

import (
	"math/rand/v2"
	"slices"
	"testing"

	"saleroom/api"
	"saleroom/catalog"
	"saleroom/roster"
	"saleroom/setup"
)

// expectCheck expects the error from Check(s).
func expectCheck(t *testing.T, s api.Setup, want api.Errno) {
	t.Helper()
	if got := setup.Check(s); got != want {
		t.Errorf("Check(%v) = %v, want %v", s, got, want)
	}
}

// P10.1: valid setups, those at the limits among them
func TestCheckOfValidSetups(t *testing.T) {
	expectCheck(t, example(), api.OK)
	expectCheck(t, sale(), api.OK)
	expectCheck(t, largest(), api.OK)
	s := example()
	s.Asides = []api.Aside{}
	s.Caps = []api.Cap{}
	expectCheck(t, s, api.OK)
	for bidder := -1; bidder < 2; bidder++ {
		for group := range classes + 1 {
			for capped := range most + 1 {
				s.Caps = []api.Cap{{Bidder: bidder, Group: group, Units: capped}}
				expectCheck(t, s, api.OK)
			}
		}
	}
	s = sale()
	for k, p := range s.Products {
		for class := 1; class <= classes; class++ {
			for reserved := 1; reserved <= p.Supply; reserved++ {
				s.Asides = []api.Aside{{Product: k, Class: class, Units: reserved}}
				expectCheck(t, s, api.OK)
			}
		}
	}
}

// P10.1: the same name for a product and a bidder, and caps that share only the bidder or only the group
func TestCheckOfSimilarElements(t *testing.T) {
	s := sale()
	s.Bidders[0].Name = "a"
	s.Bidders[1].Name = "cap"
	expectCheck(t, s, api.OK)
	s.Caps = nil
	for bidder := -1; bidder < 3; bidder++ {
		for group := range 4 {
			s.Caps = append(s.Caps, api.Cap{Bidder: bidder, Group: group, Units: 1})
		}
	}
	expectCheck(t, s, api.OK)
	s.Asides = []api.Aside{{Product: 2, Class: 1, Units: 1}, {Product: 0, Class: 1, Units: 1}, {Product: 1, Class: 1, Units: 1}}
	expectCheck(t, s, api.OK)
}

// P10.1: every fault, and of two faults the one that Check looks for first
func TestCheckOfFaults(t *testing.T) {
	badSetups(func(s api.Setup, want api.Errno) { expectCheck(t, s, want) })
	expectCheck(t, api.Setup{}, api.ErrShort)
	all := faults()
	for first, f := range all {
		for _, g := range all[first+1:] {
			// The later fault is applied first, since the earlier one may remove the elements that it changes.
			s := sale()
			g.apply(&s)
			f.apply(&s)
			if got := setup.Check(s); got != f.err {
				t.Errorf("%s and %s: Check = %v, want %v", f.name, g.name, got, f.err)
			}
		}
	}
}

// P10.1: the errors of catalog.Check come before those of roster.Check, and both before everything else.
func TestCheckOfLists(t *testing.T) {
	for _, name := range badNames {
		s := sale()
		s.Products[1].Name = name
		expectCheck(t, s, api.ErrName)
		s.Bidders = nil
		expectCheck(t, s, api.ErrName)
		s = sale()
		s.Bidders[1].Name = name
		expectCheck(t, s, api.ErrName)
		s.Caps = make([]api.Cap, 17)
		s.Asides = make([]api.Aside, 7)
		expectCheck(t, s, api.ErrName)
	}
	s := largest()
	s.Products[1].Supply = 4
	expectCheck(t, s, api.OK)
	s.Products[4].Supply = 2
	expectCheck(t, s, api.ErrLimit)
	s.Bidders = nil
	expectCheck(t, s, api.ErrLimit)
}

// P10.1: numbers out of range in a cap, with the first and with extreme ones
func TestCheckOfCaps(t *testing.T) {
	for at := range 3 {
		for _, bidder := range append([]int{3, 4, 8, 256}, wild...) {
			s := sale()
			s.Caps[at].Bidder = bidder
			expectCheck(t, s, api.ErrNone)
			s.Caps[at].Group, s.Caps[at].Units = -1, -1
			expectCheck(t, s, api.ErrNone)
		}
		for _, group := range append([]int{-1, 5, 6, 256}, wild...) {
			s := sale()
			s.Caps[at].Group = group
			expectCheck(t, s, api.ErrRange)
		}
		for _, capped := range append([]int{-1, 25, 26, 256}, wild...) {
			s := sale()
			s.Caps[at].Units = capped
			expectCheck(t, s, api.ErrRange)
		}
	}
}

// P10.1: an earlier cap has the same Bidder and Group, and not only one of them; its Units do not matter.
func TestCheckOfCapsTwice(t *testing.T) {
	s := sale()
	s.Caps = nil
	for n := range caps {
		s.Caps = append(s.Caps, api.Cap{Bidder: n/5 - 1, Group: n % 5, Units: n})
	}
	expectCheck(t, s, api.OK)
	for i := range s.Caps {
		for j := range i {
			twice := copyOf(s)
			twice.Caps[i] = api.Cap{Bidder: s.Caps[j].Bidder, Group: s.Caps[j].Group, Units: 24 - j}
			expectCheck(t, twice, api.ErrExists)
			twice.Caps[i].Units = 25
			expectCheck(t, twice, api.ErrRange)
		}
	}
}

// P10.1: numbers out of range in a set-aside, with the first and with extreme ones
func TestCheckOfAsides(t *testing.T) {
	for at := range 2 {
		for _, product := range append([]int{-1, 3, 4, 6, 256}, wild...) {
			s := sale()
			s.Asides[at].Product = product
			expectCheck(t, s, api.ErrNone)
			s.Asides[at].Class, s.Asides[at].Units = 0, 0
			expectCheck(t, s, api.ErrNone)
		}
		for _, class := range append([]int{-1, 0, 5, 6, 256 + 1}, wild...) {
			s := sale()
			s.Asides[at].Class = class
			expectCheck(t, s, api.ErrRange)
		}
		for _, reserved := range append([]int{-1, 0, 4, 5, 256 + 1}, wild...) {
			s := sale()
			s.Asides[at].Units = reserved
			expectCheck(t, s, api.ErrRange)
		}
	}
	for k, p := range sale().Products {
		s := sale()
		s.Asides = []api.Aside{{Product: k, Class: 1, Units: p.Supply + 1}}
		expectCheck(t, s, api.ErrRange)
	}
}

// P10.1: an earlier set-aside has the same Product, whatever its Class and Units are.
func TestCheckOfAsidesTwice(t *testing.T) {
	for i := range products {
		for j := range i {
			s := largest()
			s.Asides[i] = api.Aside{Product: s.Asides[j].Product, Class: 1 + i%4, Units: 1}
			expectCheck(t, s, api.ErrExists)
			s.Asides[i].Class = 5
			expectCheck(t, s, api.ErrRange)
		}
	}
}

// model returns the first error of s, from the list of all that can be wrong with it in their order.
func model(s api.Setup) api.Errno {
	found := []api.Errno{catalog.Check(s.Products), roster.Check(s.Bidders)}
	note := func(wrong bool, e api.Errno) {
		if wrong {
			found = append(found, e)
		}
	}
	note(len(s.Caps) > caps, api.ErrLong)
	limited := map[[2]int]bool{}
	for _, c := range s.Caps {
		note(c.Bidder < -1 || c.Bidder >= len(s.Bidders), api.ErrNone)
		note(c.Group < 0 || c.Group > 4 || c.Units < 0 || c.Units > 24, api.ErrRange)
		note(limited[[2]int{c.Bidder, c.Group}], api.ErrExists)
		limited[[2]int{c.Bidder, c.Group}] = true
	}
	note(len(s.Asides) > products, api.ErrLong)
	divided := map[int]bool{}
	for _, a := range s.Asides {
		exists := a.Product >= 0 && a.Product < len(s.Products)
		note(!exists, api.ErrNone)
		note(a.Class < 1 || a.Class > 4 || a.Units < 1 || exists && a.Units > s.Products[a.Product].Supply, api.ErrRange)
		note(divided[a.Product], api.ErrExists)
		divided[a.Product] = true
	}
	for _, e := range found {
		if e != api.OK {
			return e
		}
	}
	return api.OK
}

// disturb changes a few random fields of s.
func disturb(source *rand.Rand, s api.Setup) api.Setup {
	s = copyOf(s)
	for range source.IntN(4) {
		n := source.IntN(7) - 1
		switch source.IntN(8) {
		case 0:
			s.Caps = append(s.Caps, slices.Repeat([]api.Cap{{Bidder: n}}, source.IntN(20))...)
		case 1:
			s.Asides = append(s.Asides, slices.Repeat([]api.Aside{{Product: n}}, source.IntN(8))...)
		case 2:
			s.Caps = append(s.Caps, api.Cap{Bidder: n, Group: source.IntN(7) - 1, Units: source.IntN(30) - 2})
		case 3:
			s.Asides = append(s.Asides, api.Aside{Product: n, Class: source.IntN(6), Units: source.IntN(4)})
		case 4:
			slices.Reverse(s.Caps)
		case 5:
			slices.Reverse(s.Asides)
		case 6:
			s.Products[source.IntN(len(s.Products))].Supply = n
		case 7:
			s.Bidders[source.IntN(len(s.Bidders))].Class = n
		}
	}
	return s
}

// P10.1: against the definition
func TestManyChecks(t *testing.T) {
	source := newSource()
	seen := map[api.Errno]int{}
	for range 20000 {
		s := disturb(source, someSetup(source))
		want := model(s)
		expectCheck(t, s, want)
		seen[want]++
	}
	for _, e := range []api.Errno{api.OK, api.ErrLong, api.ErrNone, api.ErrRange, api.ErrExists} {
		if seen[e] < 100 {
			t.Errorf("only %d of the setups have %v", seen[e], e)
		}
	}
}
