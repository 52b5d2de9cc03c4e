package flatten_test

import (
	"math"
	"slices"
	"testing"

	"saleroom/api"
	"saleroom/expr"
	"saleroom/flatten"
	"saleroom/valuation"
)

// expectExpr expects the expression of a list.
func expectExpr(t *testing.T, l []api.Offer, want api.Expr) {
	t.Helper()
	if got, err := flatten.ToExpr(l); err != api.OK || !expr.Equal(got, want) {
		t.Errorf("ToExpr(%v) = %v, %v, want %v", l, got, err, want)
	}
}

// expectNoExpr expects an error and no expression.
func expectNoExpr(t *testing.T, l []api.Offer, want api.Errno) {
	t.Helper()
	if got, err := flatten.ToExpr(l); err != want || !expr.Equal(got, api.Expr{}) {
		t.Errorf("ToExpr(%v) = %v, %v, want %v", l, got, err, want)
	}
}

// various returns n offers that all differ.
func various(n int) []api.Offer {
	var l []api.Offer
	for i := range n {
		l = append(l, api.Offer{Bidder: i % 3, Want: with(1+i%4, i/4%5, 0, 0, 0, i/20%5), Value: int64(n - i)})
	}
	return l
}

// P14.4: short lists
func TestToExpr(t *testing.T) {
	expectExpr(t, []api.Offer{bid(5, 1)}, read("{a:1}@5"))
	expectExpr(t, []api.Offer{bid(most, 4, 4, 4, 4, 4, 4)}, read("{a:4,b:4,c:4,d:4,e:4,f:4}@1000000"))
	expectExpr(t, []api.Offer{bid(7, 0, 1), bid(5, 1)}, read("xor({b:1}@7,{a:1}@5)"))
	expectExpr(t, []api.Offer{bid(5, 1), bid(7, 0, 1)}, read("xor({a:1}@5,{b:1}@7)"))
	expectExpr(t, []api.Offer{bid(5, 1), bid(5, 1)}, read("xor({a:1}@5,{a:1}@5)"))
	expectExpr(t, of(3, bid(5, 1), bid(7, 0, 1), bid(1, 2)), read("xor({a:1}@5,{b:1}@7,{a:2}@1)"))
	expectExpr(t, various(8), read("xor({a:1}@8,{a:2}@7,{a:3}@6,{a:4}@5,{a:1,b:1}@4,{a:2,b:1}@3,{a:3,b:1}@2,{a:4,b:1}@1)"))
}

// P14.4: groups, the last of which is smaller in most cases, and is an Atom if it has one offer
func TestToExprOfGroups(t *testing.T) {
	expectExpr(t, various(9), read("xor(xor({a:1}@9,{a:2}@8,{a:3}@7,{a:4}@6,{a:1,b:1}@5,{a:2,b:1}@4,{a:3,b:1}@3,{a:4,b:1}@2),{a:1,b:2}@1)"))
	expectExpr(t, various(10), read("xor(xor({a:1}@10,{a:2}@9,{a:3}@8,{a:4}@7,{a:1,b:1}@6,{a:2,b:1}@5,{a:3,b:1}@4,{a:4,b:1}@3),xor({a:1,b:2}@2,{a:2,b:2}@1))"))
	for n := 1; n <= 34; n++ {
		l := various(n)
		e, err := flatten.ToExpr(l)
		if err != api.OK {
			t.Fatalf("ToExpr of %d offers is the error %v", n, err)
		}
		if n > args {
			checkGroups(t, e, n)
		}
		atoms := expr.Atoms(e)
		for i, offer := range l {
			if want := (api.Expr{Op: api.Atom, Want: offer.Want, Value: offer.Value}); len(atoms) != n || !expr.Equal(atoms[i], want) {
				t.Fatalf("the Atoms of %d offers are %v", n, atoms)
			}
		}
	}
}

// checkGroups expects an Xor of groups of eight Atoms, where the last one has those that are left.
func checkGroups(t *testing.T, e api.Expr, n int) {
	t.Helper()
	if e.Op != api.Xor || len(e.Args) != (n+args-1)/args {
		t.Fatalf("the expression of %d offers is %v", n, e)
	}
	for i, group := range e.Args {
		switch size := min(args, n-args*i); {
		case size == 1 && group.Op != api.Atom:
			t.Errorf("the last group of %d offers is %v", n, group)
		case size > 1 && (group.Op != api.Xor || len(group.Args) != size || expr.Size(group) != size+1):
			t.Errorf("group %d of %d offers is %v", i, n, group)
		}
	}
}

// P14.4: lists that are empty or too long
func TestToExprOfOtherLengths(t *testing.T) {
	expectNoExpr(t, nil, api.ErrShort)
	expectNoExpr(t, []api.Offer{}, api.ErrShort)
	if e, err := flatten.ToExpr(various(34)); err != api.OK || expr.Size(e) != 40 {
		t.Errorf("the expression of 34 offers has %d nodes, or is the error %v", expr.Size(e), err)
	}
	for n := 35; n < 80; n++ {
		expectNoExpr(t, various(n), api.ErrLong)
	}
	for _, n := range []int{100, 511, 512, 513, 100000} {
		expectNoExpr(t, slices.Repeat(various(1), n), api.ErrLong)
	}
}

// P14.4: offers with values and bundles out of range, after a list that is too long
func TestToExprOfInvalidOffers(t *testing.T) {
	bad := []api.Offer{{}, bid(0, 1), bid(-1, 1), bid(most+1, 1), bid(math.MaxInt64, 1), bid(math.MinInt64, 1), bid(5), bid(5, -1), bid(5, 5), bid(5, 1, -1)}
	for _, b := range badBundles() {
		bad = append(bad, api.Offer{Want: b, Value: 5})
	}
	for _, offer := range bad {
		for _, n := range []int{1, 2, 8, 9, 17, 34} {
			for _, i := range []int{0, n / 2, n - 1} {
				l := various(n)
				l[i] = offer
				expectNoExpr(t, l, api.ErrRange)
			}
		}
		expectNoExpr(t, slices.Repeat([]api.Offer{offer}, 35), api.ErrLong)
	}
}

// P14.4: the expression is worth what the offers are worth; Offers gives the list back.
func TestToExprValues(t *testing.T) {
	source := newSource()
	for range 1500 {
		l := cleanByDefinition(of(0, someOffers(source, with(2, 2, 2), 1+source.IntN(34))...))
		l = slices.DeleteFunc(l, func(offer api.Offer) bool { return offer.Want == api.Bundle{} })
		if len(l) == 0 {
			continue
		}
		e, err := flatten.ToExpr(l)
		if err != api.OK {
			t.Fatalf("ToExpr(%v) is the error %v", l, err)
		}
		for _, b := range allWithin(with(2, 2, 2)) {
			if got, want := valuation.Value(e, b), valueByDefinition(l, b); got != want {
				t.Fatalf("%v is worth %d under the expression of %v, want %d", b, got, l, want)
			}
		}
		slices.SortFunc(l, func(x, y api.Offer) int { return slices.Compare(x.Want[:], y.Want[:]) })
		again, err := flatten.Offers(e, with(2, 2, 2))
		expectOffers(t, "the expression of a list", again, err, l)
	}
}
