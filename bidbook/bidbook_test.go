package bidbook_test

import (
	"slices"
	"testing"

	"saleroom/api"
	"saleroom/bidbook"
	"saleroom/setup"
)

// P16.1
func TestNew(t *testing.T) {
	for _, s := range []api.Setup{sale(), {Products: sale().Products, Bidders: sale().Bidders[:1]}} {
		if e := setup.Check(s); e != api.OK {
			t.Fatalf("Check(%v) = %v", s, e)
		}
		book := newBook(t, s)
		expectOffers(t, book, bidders, nil)
		expectValue(t, book, 0, with(1), 0)
	}
}

// P16.1: the error of setup.Check, and no book
func TestNewErrors(t *testing.T) {
	cases := []struct {
		spoil func(*api.Setup)
		want  api.Errno
	}{
		{func(s *api.Setup) { s.Products[1].Name = "B!" }, api.ErrName},
		{func(s *api.Setup) { s.Products[1].Name = "a" }, api.ErrExists},
		{func(s *api.Setup) { s.Products[0].Supply = 5 }, api.ErrRange},
		{func(s *api.Setup) { s.Products = slices.Repeat(s.Products, 3) }, api.ErrLong},
		{func(s *api.Setup) { s.Bidders[2].Name = "free" }, api.ErrExists},
		{func(s *api.Setup) { s.Bidders[2].Budget = -1 }, api.ErrRange},
		{func(s *api.Setup) { s.Bidders = slices.Repeat(s.Bidders, 3) }, api.ErrLong},
		{func(s *api.Setup) { s.Caps[0].Bidder = bidders }, api.ErrNone},
		{func(s *api.Setup) { s.Caps = slices.Repeat(s.Caps, 9) }, api.ErrLong},
		{func(s *api.Setup) { s.Asides[0].Product = 3 }, api.ErrNone},
		{func(s *api.Setup) { s.Asides[0].Units = 5 }, api.ErrRange},
	}
	for i, c := range cases {
		s := sale()
		c.spoil(&s)
		if e := setup.Check(s); e != c.want {
			t.Fatalf("case %d: Check returns %v", i, e)
		}
		if book, e := bidbook.New(s); book != nil || e != c.want {
			t.Errorf("case %d: New returns %v, %v, want %v", i, book, e, c.want)
		}
	}
}

// P16.2: the example in the section Examples
func TestPutExampleOfBudget(t *testing.T) {
	book := newBook(t, api.Setup{
		Products: []api.Product{{Name: "a", Supply: 1}},
		Bidders:  []api.Bidder{{Name: "x", Budget: 10}},
	})
	expectPut(t, book, 0, bid(11, 1), api.ErrFunds)
	expectPut(t, book, 0, bid(10, 1), api.OK)
	expectPut(t, book, 0, bid(10, 2), api.ErrRule)
	expectOffers(t, book, 1, []api.Offer{bid(10, 1)})
}

// P16.2: the greatest value remains, the example 5 and then 3 first.
func TestPutKeepsGreatest(t *testing.T) {
	book := newBook(t, sale())
	for _, c := range []struct{ value, want int64 }{{5, 5}, {3, 5}, {5, 5}, {6, 6}, {1, 6}, {most, most}, {most - 1, most}} {
		put(t, book, free, bid(c.value, 1))
		expectValue(t, book, free, with(1), c.want)
		expectOffers(t, book, bidders, []api.Offer{bid(c.want, 1)})
	}
}

// P16.2: an offer is that of the bidder on the bundle, and of no other.
func TestPutApart(t *testing.T) {
	book := newBook(t, sale())
	put(t, book, free, bid(5, 1))
	put(t, book, insider, bid(7, 1))
	put(t, book, free, bid(4, 1, 1))
	put(t, book, free, bid(3, 0, 1))
	put(t, book, capped, bid(1, 0, 0, 2))
	expectOffers(t, book, bidders, []api.Offer{
		{Bidder: free, Want: with(1), Value: 5}, {Bidder: free, Want: with(1, 1), Value: 4}, {Bidder: free, Want: with(0, 1), Value: 3},
		{Bidder: insider, Want: with(1), Value: 7}, {Bidder: capped, Want: with(0, 0, 2), Value: 1},
	})
	expectValue(t, book, free, with(2), 0)
	expectValue(t, book, free, with(0, 0, 2), 0)
	expectValue(t, book, poor, with(1), 0)
}

// P16.2: the reserve does not matter, and the values 1 and 1000000 are in range.
func TestPutRange(t *testing.T) {
	book := newBook(t, sale())
	expectPut(t, book, free, bid(1, 1), api.OK)
	expectPut(t, book, free, bid(most, 2), api.OK)
	for _, value := range badValues() {
		expectPut(t, book, free, bid(value, 1), api.ErrRange)
		expectPut(t, book, free, bid(value, 3), api.ErrRange)
	}
}

// P16.2
func TestPutNoBidder(t *testing.T) {
	book := newBook(t, sale())
	for _, bidder := range badBidders {
		expectPut(t, book, bidder, bid(5, 1), api.ErrNone)
	}
}

// P16.2: the errors of setup.Allowed
func TestPutAllowed(t *testing.T) {
	book := newBook(t, sale())
	for _, b := range badBundles() {
		expectPut(t, book, free, api.Offer{Want: b, Value: 5}, api.ErrRange)
	}
	cases := []struct {
		bidder int
		want   api.Bundle
		e      api.Errno
	}{
		{free, with(3), api.OK},
		{free, with(4), api.ErrRule},
		{insider, with(4), api.OK},
		{free, with(0, 0, 0, 1), api.ErrRule},
		{free, with(0, 0, 0, 0, 0, 1), api.ErrRule},
		{free, with(0, 4, 3), api.OK},
		{free, with(0, 4, 4), api.ErrRule},
		{capped, with(3, 1, 1), api.OK},
		{capped, with(0, 2, 1), api.ErrRule},
		{capped, with(0, 0, 3), api.ErrRule},
	}
	for _, c := range cases {
		if e := setup.Allowed(sale(), c.bidder, c.want); e != c.e {
			t.Fatalf("Allowed(%d, %v) = %v", c.bidder, c.want, e)
		}
		expectPut(t, book, c.bidder, api.Offer{Want: c.want, Value: 5}, c.e)
	}
}

// P16.2
func TestPutEmpty(t *testing.T) {
	book := newBook(t, sale())
	for bidder := range bidders {
		expectPut(t, book, bidder, bid(5), api.ErrRange)
		expectValue(t, book, bidder, with(), 0)
	}
}

// P16.2: a budget of 0 is none.
func TestPutBudget(t *testing.T) {
	book := newBook(t, sale())
	expectPut(t, book, poor, bid(51, 1), api.ErrFunds)
	expectPut(t, book, poor, bid(most, 1), api.ErrFunds)
	expectPut(t, book, poor, bid(49, 2), api.OK)
	expectPut(t, book, poor, bid(50, 1), api.OK)
	expectPut(t, book, poor, bid(51, 1), api.ErrFunds)
	expectPut(t, book, poor, bid(50, 3), api.OK)
	expectPut(t, book, free, bid(most, 1), api.OK)
}

// P16.2: at most 40 offers of each bidder, which can still be raised
func TestPutLong(t *testing.T) {
	book := newBook(t, sale())
	all := fill(t, book, free)
	if len(book.Offers(free)) != full {
		t.Fatalf("there are %d offers", len(book.Offers(free)))
	}
	expectPut(t, book, free, bid(10, 3), api.ErrLong)
	expectPut(t, book, free, bid(1, 0, 0, 1), api.ErrLong)
	for i, b := range all {
		expectPut(t, book, free, api.Offer{Want: b, Value: int64(1 + i)}, api.OK)
		expectValue(t, book, free, b, int64(max(10, 1+i)))
	}
	expectPut(t, book, insider, bid(10, 3), api.OK)
	fill(t, book, poor)
	expectPut(t, book, poor, bid(10, 3), api.ErrLong)
	if got := len(book.All()); got != 2*full+1 {
		t.Errorf("there are %d offers", got)
	}
}

// P16.2: of two errors the one that the chapter names first
func TestPutFirstError(t *testing.T) {
	book := newBook(t, sale())
	fill(t, book, free)
	fill(t, book, poor)
	cases := []struct {
		bidder int
		offer  api.Offer
		want   api.Errno
	}{
		{bidders, bid(0, 1), api.ErrNone},
		{bidders, bid(5, 5), api.ErrNone},
		{bidders, bid(5, 4), api.ErrNone},
		{-1, bid(5), api.ErrNone},
		{-1, bid(most + 1), api.ErrNone},
		{free, bid(0, 4), api.ErrRange},
		{free, bid(0, 0, 0, 0, 1), api.ErrRange},
		{free, bid(-1), api.ErrRange},
		{poor, bid(most+1, 1), api.ErrRange},
		{free, bid(0, 3), api.ErrRange},
		{poor, bid(51, 4), api.ErrRule},
		{poor, bid(51, 5), api.ErrRange},
		{free, bid(5, 4), api.ErrRule},
		{free, bid(5, -1), api.ErrRange},
		{poor, bid(51), api.ErrRange},
		{free, bid(5), api.ErrRange},
		{poor, bid(51, 3), api.ErrFunds},
		{poor, bid(51, 0, 1), api.ErrFunds},
		{poor, bid(50, 3), api.ErrLong},
		{poor, bid(50, 0, 1), api.OK},
	}
	for _, c := range cases {
		expectPut(t, book, c.bidder, c.offer, c.want)
	}
}

// P16.3
func TestPutAll(t *testing.T) {
	book := newBook(t, sale())
	put(t, book, free, bid(9, 0, 0, 1))
	put(t, book, free, bid(9, 0, 0, 2))
	put(t, book, insider, bid(9, 0, 0, 1))
	expectPutAll(t, book, free, []api.Offer{bid(5, 1), bid(3, 1), bid(2, 2), bid(4, 2), bid(8, 0, 0, 1), bid(10, 0, 0, 2)}, api.OK)
	expectOffers(t, book, bidders, []api.Offer{
		bid(5, 1), bid(4, 2), bid(9, 0, 0, 1), bid(10, 0, 0, 2), {Bidder: insider, Want: with(0, 0, 1), Value: 9},
	})
}

// P16.3: the Bidder of the elements is ignored.
func TestPutAllIgnoresBidders(t *testing.T) {
	book := newBook(t, sale())
	l := []api.Offer{{Bidder: free, Want: with(4), Value: most}}
	for i, bidder := range badBidders {
		l = append(l, api.Offer{Bidder: bidder, Want: with(0, 1+i%units), Value: int64(1 + i)})
	}
	expectPutAll(t, book, insider, l, api.OK)
	for _, offer := range book.All() {
		if offer.Bidder != insider {
			t.Errorf("%v is no offer of %d", offer, insider)
		}
	}
	expectPutAll(t, book, poor, []api.Offer{{Bidder: free, Want: with(1), Value: 51}}, api.ErrFunds)
	expectPutAll(t, book, capped, []api.Offer{{Bidder: insider, Want: with(0, 3), Value: 1}}, api.ErrRule)
}

// P16.3: with an empty list OK, also without such a bidder
func TestPutAllEmpty(t *testing.T) {
	book := newBook(t, sale())
	put(t, book, free, bid(5, 1))
	for _, bidder := range append([]int{free, poor}, badBidders...) {
		expectPutAll(t, book, bidder, nil, api.OK)
		expectPutAll(t, book, bidder, []api.Offer{}, api.OK)
		expectOffers(t, book, bidders, []api.Offer{bid(5, 1)})
	}
	for _, bidder := range badBidders {
		expectPutAll(t, book, bidder, []api.Offer{bid(5, 1)}, api.ErrNone)
		expectPutAll(t, book, bidder, []api.Offer{bid(0)}, api.ErrNone)
	}
}

// P16.3: with an error at any place none of the elements is recorded, nor is a value raised.
func TestPutAllErrors(t *testing.T) {
	bad := []struct {
		offer api.Offer
		want  api.Errno
	}{
		{bid(0, 1), api.ErrRange}, {bid(most+1, 1), api.ErrRange}, {bid(5, 4), api.ErrRule}, {bid(5, 5), api.ErrRange}, {bid(5), api.ErrRange}, {bid(51, 1), api.ErrFunds},
	}
	good := []api.Offer{bid(5, 1), bid(20, 0, 1), bid(7, 1), bid(50, 2), bid(1, 0, 0, 4)}
	for _, c := range bad {
		for i := range len(good) + 1 {
			book := newBook(t, sale())
			put(t, book, poor, bid(9, 0, 1))
			put(t, book, free, bid(9, 0, 1))
			expectPutAll(t, book, poor, slices.Insert(slices.Clone(good), i, c.offer), c.want)
			// The first error counts.
			for _, other := range bad {
				expectPutAll(t, book, poor, append(slices.Insert(slices.Clone(good), i, c.offer), other.offer), c.want)
			}
			expectPutAll(t, book, poor, good, api.OK)
		}
	}
}

// P16.3: at most 40 offers after the whole list, which can be longer itself
func TestPutAllLong(t *testing.T) {
	filled := newBook(t, sale())
	var l []api.Offer
	for _, b := range fill(t, filled, free) {
		l = append(l, api.Offer{Want: b, Value: 10})
	}
	book := newBook(t, sale())
	expectPutAll(t, book, free, append(slices.Clone(l), bid(1, 3)), api.ErrLong)
	expectPutAll(t, book, free, append([]api.Offer{bid(1, 3)}, l...), api.ErrLong)
	expectOffers(t, book, bidders, nil)
	expectPutAll(t, book, free, slices.Repeat(l, 3), api.OK)
	expectOffers(t, book, bidders, filled.All())
	expectPutAll(t, book, free, []api.Offer{bid(20, 0, 1), bid(1, 3)}, api.ErrLong)
	// The error of the element that is too much comes before that of a later one.
	expectPutAll(t, book, free, []api.Offer{bid(20, 0, 1), bid(1, 3), bid(0, 1)}, api.ErrLong)
	expectPutAll(t, book, free, []api.Offer{bid(20, 0, 1), bid(0, 1), bid(1, 3)}, api.ErrRange)
	expectPutAll(t, book, insider, l, api.OK)
}

// P16.4
func TestRemove(t *testing.T) {
	book := newBook(t, sale())
	expectRemove(t, book, free, 0, api.OK)
	put(t, book, free, bid(5, 1))
	put(t, book, free, bid(6, 1))
	put(t, book, free, bid(7, 2))
	put(t, book, insider, bid(8, 2))
	expectRemove(t, book, poor, 0, api.OK)
	expectRemove(t, book, free, 2, api.OK)
	expectOffers(t, book, bidders, []api.Offer{{Bidder: insider, Want: with(2), Value: 8}})
	expectValue(t, book, free, with(1), 0)
	expectRemove(t, book, free, 0, api.OK)
	put(t, book, free, bid(4, 1))
	expectValue(t, book, free, with(1), 4)
	expectRemove(t, book, insider, 1, api.OK)
	expectOffers(t, book, bidders, []api.Offer{bid(4, 1)})
}

// P16.4: after 40 offers are removed, there is place for others.
func TestRemoveAll(t *testing.T) {
	book := newBook(t, sale())
	for range 3 {
		fill(t, book, free)
		expectPut(t, book, free, bid(9, 3), api.ErrLong)
		expectRemove(t, book, free, full, api.OK)
		put(t, book, free, bid(9, 3))
		expectRemove(t, book, free, 1, api.OK)
	}
}

// P16.4
func TestRemoveNoBidder(t *testing.T) {
	book := newBook(t, sale())
	put(t, book, free, bid(5, 1))
	for _, bidder := range badBidders {
		expectRemove(t, book, bidder, 0, api.ErrNone)
	}
	expectOffers(t, book, bidders, []api.Offer{bid(5, 1)})
}

// P16.5: of the bundle itself, not of those within it
func TestValue(t *testing.T) {
	book := newBook(t, sale())
	put(t, book, free, bid(5, 1))
	put(t, book, free, bid(6, 1, 1))
	expectValue(t, book, free, with(1), 5)
	expectValue(t, book, free, with(1, 1), 6)
	for _, b := range append(badBundles(), with(), with(2), with(1, 2), with(0, 1), with(1, 0, 0, 0, 0, 1), with(4, 4, 4, 4, 4, 4)) {
		expectValue(t, book, free, b, 0)
	}
	for _, bidder := range append([]int{insider, poor, capped}, badBidders...) {
		expectValue(t, book, bidder, with(1), 0)
	}
}

// P16.6: ascending order of the bundles, whatever the order in which they were put
func TestOffers(t *testing.T) {
	want := []api.Offer{bid(4, 0, 0, 4), bid(8, 0, 1), bid(7, 0, 4), bid(6, 1), bid(9, 1, 0, 1), bid(5, 1, 1), bid(1, 2), bid(2, 3)}
	for i := range want {
		want[i].Bidder = insider
	}
	source := newSource()
	for range 50 {
		book := newBook(t, sale())
		for _, i := range source.Perm(len(want)) {
			put(t, book, insider, want[i])
		}
		if got := book.Offers(insider); !slices.Equal(got, want) {
			t.Fatalf("Offers() = %v, want %v", got, want)
		}
		if got := book.All(); !slices.Equal(got, want) {
			t.Fatalf("All() = %v, want %v", got, want)
		}
	}
}

// P16.6: none if there is no such bidder
func TestOffersOfNoBidder(t *testing.T) {
	book := newBook(t, sale())
	put(t, book, free, bid(5, 1))
	put(t, book, capped, bid(5, 1))
	for _, bidder := range append([]int{insider, poor}, badBidders...) {
		if got := book.Offers(bidder); len(got) != 0 {
			t.Errorf("Offers(%d) = %v", bidder, got)
		}
	}
}

// P16.6: ascending order of the bidders
func TestAll(t *testing.T) {
	book := newBook(t, sale())
	for _, bidder := range []int{capped, free, poor, insider} {
		put(t, book, bidder, bid(int64(10+bidder), 1))
		put(t, book, bidder, bid(int64(20+bidder), 0, 1))
	}
	want := []api.Offer{
		{Bidder: 0, Want: with(0, 1), Value: 20}, {Bidder: 0, Want: with(1), Value: 10},
		{Bidder: 1, Want: with(0, 1), Value: 21}, {Bidder: 1, Want: with(1), Value: 11},
		{Bidder: 2, Want: with(0, 1), Value: 22}, {Bidder: 2, Want: with(1), Value: 12},
		{Bidder: 3, Want: with(0, 1), Value: 23}, {Bidder: 3, Want: with(1), Value: 13},
	}
	if got := book.All(); !slices.Equal(got, want) {
		t.Errorf("All() = %v, want %v", got, want)
	}
}

// P16.7: the book and its copy have the same offers and the same setup, and later calls change only one of them.
func TestCopy(t *testing.T) {
	book := newBook(t, sale())
	put(t, book, free, bid(5, 1))
	put(t, book, poor, bid(5, 1))
	before := book.All()
	twin := book.Copy()
	expectOffers(t, twin, bidders, before)
	expectPut(t, twin, poor, bid(51, 1), api.ErrFunds)
	expectPut(t, twin, capped, bid(5, 0, 3), api.ErrRule)
	expectPut(t, twin, bidders, bid(5, 1), api.ErrNone)
	put(t, twin, free, bid(6, 1))
	put(t, twin, insider, bid(6, 1))
	expectRemove(t, twin, poor, 1, api.OK)
	expectOffers(t, book, bidders, before)
	after := twin.All()
	expectPutAll(t, book, capped, []api.Offer{bid(7, 1), bid(8, 2)}, api.OK)
	expectRemove(t, book, free, 1, api.OK)
	expectOffers(t, twin, bidders, after)
	expectOffers(t, newBook(t, sale()).Copy(), bidders, nil)
}

// R4, P16.7: a nil book
func TestNilBook(t *testing.T) {
	var book *bidbook.Book
	expectPut(t, book, 0, bid(5, 1), api.ErrNone)
	expectPut(t, book, 0, bid(0), api.ErrNone)
	expectPutAll(t, book, 0, []api.Offer{bid(5, 1)}, api.ErrNone)
	expectPutAll(t, book, 0, nil, api.ErrNone)
	expectRemove(t, book, 0, 0, api.ErrNone)
	expectValue(t, book, 0, with(1), 0)
	if got := book.Offers(0); len(got) != 0 {
		t.Errorf("Offers() = %v", got)
	}
	if got := book.All(); len(got) != 0 {
		t.Errorf("All() = %v", got)
	}
	if got := book.Copy(); got != nil {
		t.Errorf("Copy() = %v", got)
	}
}

// R1: a book that New has not returned
func TestPlainBook(t *testing.T) {
	for _, bidder := range append([]int{0, 1}, badBidders...) {
		for _, book := range []*bidbook.Book{{}, new(bidbook.Book).Copy()} {
			book.Put(bidder, with(1), 5)
			book.PutAll(bidder, []api.Offer{bid(5, 1)})
			book.PutAll(bidder, nil)
			book.Remove(bidder)
			book.Value(bidder, with(1))
			book.Offers(bidder)
			book.All()
		}
	}
}
