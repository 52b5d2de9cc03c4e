package flatten_test

import (
	"slices"
	"testing"

	"saleroom/api"
	"saleroom/expr"
	"saleroom/flatten"
	"saleroom/valuation"
)

// P14.6: the offers of an expression are worth what the expression is worth, and none of them is dominated.
func TestOffersHaveTheValues(t *testing.T) {
	source := newSource()
	for i := range 1500 {
		supply := supplies[i%len(supplies)]
		e := validExpr(source, with(2, 2, 1, 1, 1, 1))
		l, err := flatten.Offers(e, supply)
		if err == api.ErrLong {
			continue
		}
		table, _ := valuation.Table(e, supply)
		for rank, b := range allWithin(supply) {
			if got := flatten.Value(l, b); err != api.OK || got != table[rank] {
				t.Fatalf("the offers of %v give %d for %v, want %d; the error is %v", e, got, b, table[rank], err)
			}
		}
		expectClean(t, l, l)
		for i := range l {
			if isDominated(l, i) {
				t.Fatalf("offer %d of %v is dominated", i, l)
			}
		}
	}
}

// P14.6: the values of the offers of each bidder are the same after Clean.
func TestCleanKeepsTheValues(t *testing.T) {
	source := newSource()
	for range 2000 {
		l := someOffers(source, with(2, 2, 1), source.IntN(20))
		clean := flatten.Clean(l)
		for bidder := range 3 {
			other := func(offer api.Offer) bool { return offer.Bidder != bidder }
			before := slices.DeleteFunc(slices.Clone(l), other)
			after := slices.DeleteFunc(slices.Clone(clean), other)
			for _, b := range allWithin(with(2, 2, 2)) {
				if flatten.Value(before, b) != flatten.Value(after, b) {
					t.Fatalf("Clean(%v) = %v changes the value of %v", l, clean, b)
				}
			}
		}
	}
}

// P14.6: no shorter list has the same values. The lists are those of all offers with small values.
func TestMinimalListIsShortest(t *testing.T) {
	supply := with(1, 1)
	var some []api.Offer
	for _, b := range allWithin(supply) {
		for value := range 4 {
			some = append(some, api.Offer{Want: b, Value: int64(value)})
		}
	}
	shortest := map[[4]int64]int{}
	var extend func(l []api.Offer)
	extend = func(l []api.Offer) {
		var values [4]int64
		for rank, b := range allWithin(supply) {
			values[rank] = valueByDefinition(l, b)
		}
		if length, known := shortest[values]; !known || len(l) < length {
			shortest[values] = len(l)
		}
		if len(l) == 3 {
			return
		}
		for _, offer := range some {
			extend(append(slices.Clip(l), offer))
		}
	}
	extend(nil)
	checked := 0
	for values, length := range shortest {
		if values[0] != 0 {
			continue
		}
		checked++
		if l, err := flatten.FromTable(values[:], supply); err != api.OK || len(l) != length {
			t.Errorf("the minimal list of %v is %v, %v, and a list of %d offers has the same values", values, l, err, length)
		}
	}
	if checked != 30 {
		t.Errorf("%d tables have been checked", checked)
	}
}

// P14.6: without any one of its offers, a list does not have the same values.
func TestEveryOfferIsNeeded(t *testing.T) {
	source := newSource()
	for range 300 {
		l, _ := flatten.Offers(validExpr(source, with(2, 2, 1, 1)), with(2, 2, 1, 1))
		for i, offer := range l {
			without := slices.Delete(slices.Clone(l), i, i+1)
			if flatten.Value(without, offer.Want) >= offer.Value {
				t.Fatalf("%v gives the same values without offer %d", l, i)
			}
		}
	}
}

// R3: no function changes its arguments, nor their spare capacity.
func TestArgumentsStay(t *testing.T) {
	source := newSource()
	for range 300 {
		l := slices.Grow(someOffers(source, with(2, 2, 1), 10), 5)
		whole := slices.Clone(l[:cap(l)])
		flatten.Clean(l)
		flatten.Clean(l[:5])
		flatten.ToExpr(l[:5])
		flatten.Value(l, with(2, 2, 1))
		if !slices.Equal(l[:cap(l)], whole) {
			t.Fatalf("the list %v becomes %v", whole, l[:cap(l)])
		}
		table := slices.Grow(someTable(source, with(2, 2, 1), 9), 5)
		values := slices.Clone(table[:cap(table)])
		flatten.FromTable(table, with(2, 2, 1))
		if !slices.Equal(table[:cap(table)], values) {
			t.Fatalf("the table %v becomes %v", values, table[:cap(table)])
		}
		e := validExpr(source, with(2, 2, 1))
		same := expr.Copy(e)
		flatten.Offers(e, with(2, 2, 1))
		if !expr.Equal(e, same) {
			t.Fatalf("the expression %v becomes %v", same, e)
		}
	}
}

// R3: the results are new memory, no two nodes of which share any.
func TestResultsAreNew(t *testing.T) {
	l := various(20)
	e, _ := flatten.ToExpr(l)
	want := expr.Copy(e)
	for i := range e.Args {
		group := e.Args[i].Args
		for j := range group[:cap(group)] {
			group[:cap(group)][j] = api.Expr{Op: 77}
		}
		e.Args[i].Args = want.Args[i].Args
		if !expr.Equal(e, want) {
			t.Fatalf("a change of group %d gives %v", i, e)
		}
	}
	expectExpr(t, l, want)
	clean := flatten.Clean(l)
	kept := slices.Clone(l)
	for i := range clean[:cap(clean)] {
		clean[:cap(clean)][i] = bid(99, 4)
	}
	if !slices.Equal(l, kept) {
		t.Errorf("a change of the result of Clean changes the list to %v", l)
	}
}

// R7: the results are the same again.
func TestAgain(t *testing.T) {
	source := newSource()
	for range 50 {
		e := validExpr(source, with(2, 2, 1))
		first, err := flatten.Offers(e, with(2, 2, 1))
		for range 10 {
			again, same := flatten.Offers(e, with(2, 2, 1))
			if !slices.Equal(first, again) || err != same {
				t.Fatalf("the offers of %v are %v, %v, and then %v, %v", e, first, err, again, same)
			}
		}
	}
}

// R1: an expression that is among its own arguments has no end.
func TestEndlessExpression(t *testing.T) {
	arguments := make([]api.Expr, 2)
	endless := api.Expr{Op: api.Or, Args: arguments}
	arguments[0], arguments[1] = read("{a:1}@5"), endless
	got, err := flatten.Offers(endless, with(1))
	expectNoOffers(t, "an expression without end", got, err, api.ErrDepth)
}
