package bidbook_test

import (
	"cmp"
	"math"
	"math/rand/v2"
	"slices"
	"testing"

	"saleroom/api"
	"saleroom/bidbook"
)

// Limits of the chapter and of the layers below.
const (
	units = 4       // the most units of a product
	most  = 1000000 // the greatest value
	full  = 40      // the most offers of a bidder
)

// Bidders of sale.
const (
	free    = iota // no class, no budget and no cap of its own
	insider        // the class of the set-aside
	poor           // a budget of 50
	capped         // at most 2 units of the products of group 1
	bidders        // the number of bidders
)

// newSource returns a source of the same numbers in every run.
func newSource() *rand.Rand {
	return rand.New(rand.NewPCG(16, 41))
}

// with returns the bundle of the quantities, and 0 for the other products.
func with(quantities ...int) api.Bundle {
	var b api.Bundle
	copy(b[:], quantities)
	return b
}

// bid returns the offer of the value for the bundle of the quantities.
func bid(value int64, quantities ...int) api.Offer {
	return api.Offer{Want: with(quantities...), Value: value}
}

// sale returns a setup with 4 units of a, of which 1 is set aside, 4 of b and 4 of c, both of the group 1.
func sale() api.Setup {
	return api.Setup{
		Products: []api.Product{{Name: "a", Supply: 4, Reserve: 30, Points: 1}, {Name: "b", Supply: 4, Group: 1}, {Name: "c", Supply: 4, Group: 1}},
		Bidders:  []api.Bidder{{Name: "free", Points: 9}, {Name: "insider", Class: 2}, {Name: "poor", Budget: 50}, {Name: "capped"}},
		Caps:     []api.Cap{{Bidder: capped, Group: 1, Units: 2}, {Bidder: -1, Group: 1, Units: 7}},
		Asides:   []api.Aside{{Product: 0, Class: 2, Units: 1}},
	}
}

// newBook returns a book without offers for a valid setup.
func newBook(t *testing.T, s api.Setup) *bidbook.Book {
	t.Helper()
	book, e := bidbook.New(s)
	if e != api.OK || book == nil {
		t.Fatalf("New returns %v, %v", book, e)
	}
	return book
}

// put puts an offer that is accepted.
func put(t *testing.T, book *bidbook.Book, bidder int, offer api.Offer) {
	t.Helper()
	if e := book.Put(bidder, offer.Want, offer.Value); e != api.OK {
		t.Fatalf("Put(%d, %v, %d) = %v", bidder, offer.Want, offer.Value, e)
	}
}

// fill puts 40 offers of the value 10 of a bidder, on bundles of b and c with at least one unit of b but {b:4,c:4}, and of a.
func fill(t *testing.T, book *bidbook.Book, bidder int) []api.Bundle {
	t.Helper()
	var all []api.Bundle
	for a := range 3 {
		for b := 1; b <= units; b++ {
			for c := range units {
				if len(all) < full {
					all = append(all, with(a, b, c))
				}
			}
		}
	}
	for _, b := range all {
		put(t, book, bidder, api.Offer{Want: b, Value: 10})
	}
	return all
}

// wild are numbers that overflow or are small modulo a power of 2.
var wild = []int{math.MinInt, math.MinInt + 1, -1 << 32, 1 << 32, 1<<32 + 1, math.MaxInt - 1, math.MaxInt}

// badBidders are no indices of bidders of sale.
var badBidders = append([]int{-1, -2, -bidders, bidders, bidders + 1, 8, 256}, wild...)

// badValues are values that are out of range.
func badValues() []int64 {
	all := []int64{0, -1, -5, -most, most + 1, 2 * most}
	for _, value := range wild {
		all = append(all, int64(value))
	}
	return all
}

// badBundles are bundles that are not valid.
func badBundles() []api.Bundle {
	var all []api.Bundle
	for _, quantity := range append([]int{-1, -units, units + 1, 6, 256}, wild...) {
		for k := range api.MaxProducts {
			for _, b := range []api.Bundle{with(), with(1, 1)} {
				b[k] = quantity
				all = append(all, b)
			}
		}
	}
	return all
}

// ordered returns a copy of l in ascending order of the bidders, and of the quantities for each.
func ordered(l []api.Offer) []api.Offer {
	all := slices.Clone(l)
	slices.SortFunc(all, func(a, b api.Offer) int {
		return cmp.Or(cmp.Compare(a.Bidder, b.Bidder), slices.Compare(a.Want[:], b.Want[:]))
	})
	return all
}

// expectOffers expects that the offers of a book are these, in any order, and that each method says so.
func expectOffers(t *testing.T, book *bidbook.Book, count int, offers []api.Offer) {
	t.Helper()
	want := ordered(offers)
	if got := book.All(); !slices.Equal(got, want) {
		t.Fatalf("All() = %v, want %v", got, want)
	}
	for bidder := range count {
		var own []api.Offer
		for _, offer := range want {
			if offer.Bidder == bidder {
				own = append(own, offer)
			}
		}
		if got := book.Offers(bidder); !slices.Equal(got, own) {
			t.Fatalf("Offers(%d) = %v, want %v", bidder, got, own)
		}
		for _, offer := range own {
			expectValue(t, book, bidder, offer.Want, offer.Value)
		}
	}
}

// expectValue expects what Value returns, where 0 means that there is no offer.
func expectValue(t *testing.T, book *bidbook.Book, bidder int, b api.Bundle, want int64) {
	t.Helper()
	if got, found := book.Value(bidder, b); got != want || found != (want > 0) {
		t.Fatalf("Value(%d, %v) = %d, %v, want %d", bidder, b, got, found, want)
	}
}

// expectPut expects what Put returns, and that the book stays the same if that is an error.
func expectPut(t *testing.T, book *bidbook.Book, bidder int, offer api.Offer, want api.Errno) {
	t.Helper()
	before := book.All()
	if got := book.Put(bidder, offer.Want, offer.Value); got != want {
		t.Fatalf("Put(%d, %v, %d) = %v, want %v", bidder, offer.Want, offer.Value, got, want)
	}
	if want != api.OK {
		expectOffers(t, book, bidders, before)
	}
}

// expectPutAll expects what PutAll returns, and that the book stays the same if that is an error.
func expectPutAll(t *testing.T, book *bidbook.Book, bidder int, l []api.Offer, want api.Errno) {
	t.Helper()
	before := book.All()
	if got := book.PutAll(bidder, l); got != want {
		t.Fatalf("PutAll(%d, %v) = %v, want %v", bidder, l, got, want)
	}
	if want != api.OK {
		expectOffers(t, book, bidders, before)
	}
}

// expectRemove expects what Remove returns.
func expectRemove(t *testing.T, book *bidbook.Book, bidder int, count int, want api.Errno) {
	t.Helper()
	if got, e := book.Remove(bidder); got != count || e != want {
		t.Fatalf("Remove(%d) = %d, %v, want %d, %v", bidder, got, e, count, want)
	}
}
