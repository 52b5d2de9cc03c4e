package bidbook_test

import (
	"slices"
	"testing"

	"saleroom/api"
	"saleroom/bidbook"
	"saleroom/setup"
)

// model is a book by the words of the chapter: a list of offers in the order in which they were added.
type model struct {
	setup api.Setup
	l     []api.Offer
}

// put follows P16.2.
func (m *model) put(bidder int, b api.Bundle, value int64) api.Errno {
	if bidder < 0 || bidder >= len(m.setup.Bidders) {
		return api.ErrNone
	}
	if value < 1 || value > most {
		return api.ErrRange
	}
	if e := setup.Allowed(m.setup, bidder, b); e != api.OK {
		return e
	}
	if b == with() {
		return api.ErrRange
	}
	if budget := m.setup.Bidders[bidder].Budget; budget != 0 && budget < value {
		return api.ErrFunds
	}
	own := 0
	for i, offer := range m.l {
		if offer.Bidder == bidder {
			own++
			if offer.Want == b {
				m.l[i].Value = max(offer.Value, value)
				return api.OK
			}
		}
	}
	if own == full {
		return api.ErrLong
	}
	m.l = append(m.l, api.Offer{Bidder: bidder, Want: b, Value: value})
	return api.OK
}

// putAll follows P16.3.
func (m *model) putAll(bidder int, l []api.Offer) api.Errno {
	before := slices.Clone(m.l)
	for _, offer := range l {
		if e := m.put(bidder, offer.Want, offer.Value); e != api.OK {
			m.l = before
			return e
		}
	}
	return api.OK
}

// remove follows P16.4.
func (m *model) remove(bidder int) (int, api.Errno) {
	if bidder < 0 || bidder >= len(m.setup.Bidders) {
		return 0, api.ErrNone
	}
	before := len(m.l)
	m.l = slices.DeleteFunc(m.l, func(offer api.Offer) bool { return offer.Bidder == bidder })
	return before - len(m.l), api.OK
}

// P16.1 to P16.7: random calls, compared with the model
func TestModel(t *testing.T) {
	source := newSource()
	results := map[api.Errno]int{}
	someOffer := func() api.Offer {
		offer := api.Offer{Bidder: source.IntN(9) - 2, Value: 1 + source.Int64N(52)}
		for k := range 3 {
			offer.Want[k] = source.IntN(4)
		}
		switch source.IntN(40) {
		case 0:
			offer.Want[source.IntN(api.MaxProducts)] = source.IntN(8) - 2
		case 1:
			offer.Want = with()
		case 2:
			offer.Value = badValues()[source.IntN(len(badValues()))]
		}
		return offer
	}
	for range 30 {
		book, m := newBook(t, sale()), &model{setup: sale()}
		for range 700 {
			bidder, count := source.IntN(bidders+2)-1, 0
			var got, want api.Errno
			switch source.IntN(100) {
			case 0:
				var others int
				count, got = book.Remove(bidder)
				others, want = m.remove(bidder)
				if count != others {
					t.Fatalf("Remove(%d) = %d, want %d", bidder, count, others)
				}
			case 1:
				book = book.Copy()
			case 2, 3, 4, 5, 6:
				var l []api.Offer
				for range source.IntN(6) {
					l = append(l, someOffer())
				}
				got, want = book.PutAll(bidder, l), m.putAll(bidder, l)
			default:
				offer := someOffer()
				got, want = book.Put(bidder, offer.Want, offer.Value), m.put(bidder, offer.Want, offer.Value)
			}
			if got != want {
				t.Fatalf("the book returns %v, want %v", got, want)
			}
			results[got]++
			if all := book.All(); !slices.Equal(all, ordered(m.l)) {
				t.Fatalf("the offers are %v, want %v", all, ordered(m.l))
			}
		}
		expectOffers(t, book, bidders, m.l)
	}
	for _, e := range []api.Errno{api.OK, api.ErrNone, api.ErrRange, api.ErrRule, api.ErrFunds, api.ErrLong} {
		if results[e] < 30 {
			t.Errorf("%v is returned only %d times", e, results[e])
		}
	}
}

// P16.8: values never decrease, except by Remove.
func TestValuesNeverDecrease(t *testing.T) {
	source := newSource()
	book := newBook(t, sale())
	for range 3000 {
		before := book.All()
		b := with(source.IntN(3), source.IntN(3), source.IntN(2))
		book.Put(source.IntN(bidders), b, source.Int64N(100))
		book.PutAll(source.IntN(bidders), []api.Offer{{Want: b, Value: source.Int64N(60)}, {Want: with(1), Value: source.Int64N(60)}})
		for _, offer := range before {
			if now, found := book.Value(offer.Bidder, offer.Want); !found || now < offer.Value {
				t.Fatalf("the value of %v becomes %d, %v", offer, now, found)
			}
		}
	}
}

// P16.8: the same offers in any order, one by one or all at once
func TestAnyOrder(t *testing.T) {
	source := newSource()
	for range 100 {
		var l []api.Offer
		for range 60 {
			l = append(l, api.Offer{Bidder: free, Want: with(source.IntN(3), source.IntN(3), 1), Value: 1 + source.Int64N(20)})
		}
		book := newBook(t, sale())
		expectPutAll(t, book, free, l, api.OK)
		for range 3 {
			source.Shuffle(len(l), func(i, j int) { l[i], l[j] = l[j], l[i] })
			other := newBook(t, sale())
			for _, offer := range l {
				put(t, other, free, offer)
			}
			expectOffers(t, other, bidders, book.All())
		}
	}
}

// R3: the book keeps neither the lists of its setup nor those of offers.
func TestArgumentsAreNotKept(t *testing.T) {
	s := sale()
	book := newBook(t, s)
	l := []api.Offer{bid(5, 1), bid(6, 2)}
	expectPutAll(t, book, poor, l, api.OK)
	l[0], l[1] = bid(9, 3), bid(9, 3)
	s.Products[0].Supply, s.Bidders[poor].Budget, s.Caps[0].Units, s.Asides[0].Class = 1, 7, 0, 1
	for _, b := range []*bidbook.Book{book, book.Copy()} {
		expectOffers(t, b, bidders, []api.Offer{{Bidder: poor, Want: with(1), Value: 5}, {Bidder: poor, Want: with(2), Value: 6}})
		expectPut(t, b, poor, bid(50, 3), api.OK)
		expectPut(t, b, poor, bid(51, 3), api.ErrFunds)
		expectPut(t, b, capped, bid(5, 0, 2), api.OK)
		expectPut(t, b, capped, bid(5, 0, 3), api.ErrRule)
		expectPut(t, b, insider, bid(5, 4), api.OK)
		b.Remove(poor)
		b.Remove(capped)
		b.Remove(insider)
		put(t, b, poor, bid(5, 1))
		put(t, b, poor, bid(6, 2))
	}
}

// R3: the arguments stay as they are, and so does their spare capacity.
func TestArgumentsStay(t *testing.T) {
	s := sale()
	s.Products, s.Bidders = slices.Grow(s.Products, 3), slices.Grow(s.Bidders, 3)
	s.Caps, s.Asides = slices.Grow(s.Caps, 3), slices.Grow(s.Asides, 3)
	book := newBook(t, s)
	l := []api.Offer{bid(5, 1), bid(6, 1), bid(7, 2), bid(8, 3), bid(9, 4)}
	before := slices.Clone(l)
	expectPutAll(t, book, free, l[:3], api.OK)
	expectPutAll(t, book, free, l[1:], api.ErrRule)
	if !slices.Equal(l, before) {
		t.Errorf("the offers become %v", l)
	}
	want := sale()
	products, bidders := s.Products[:cap(s.Products)], s.Bidders[:cap(s.Bidders)]
	caps, asides := s.Caps[:cap(s.Caps)], s.Asides[:cap(s.Asides)]
	if !slices.Equal(s.Products, want.Products) || !slices.Equal(s.Bidders, want.Bidders) || !slices.Equal(s.Caps, want.Caps) || !slices.Equal(s.Asides, want.Asides) {
		t.Errorf("the setup becomes %v", s)
	}
	if products[3] != (api.Product{}) || bidders[4] != (api.Bidder{}) || caps[2] != (api.Cap{}) || asides[1] != (api.Aside{}) {
		t.Errorf("the spare capacity of the setup is used")
	}
}

// R3, R7: the results are new memory, and the same again.
func TestAgain(t *testing.T) {
	book := newBook(t, sale())
	fill(t, book, free)
	fill(t, book, insider)
	all, own := book.All(), book.Offers(free)
	for range 20 {
		again, ownAgain := book.All(), book.Offers(free)
		if !slices.Equal(again, all) || !slices.Equal(ownAgain, own) {
			t.Fatalf("the offers are %v, and then %v", all, again)
		}
		for i := range again {
			again[i] = bid(1, 1)
		}
		clear(ownAgain)
	}
}
