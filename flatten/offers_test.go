package flatten_test

import (
	"slices"
	"testing"

	"saleroom/api"
	"saleroom/expr"
	"saleroom/flatten"
	"saleroom/valuation"
)

// P14.1: the examples of the chapter, and others
func TestOffers(t *testing.T) {
	cases := []struct {
		text   string
		supply api.Bundle
		want   []api.Offer
	}{
		{"or({a:1}@5,{b:1}@7)", with(1, 1), []api.Offer{bid(7, 0, 1), bid(5, 1), bid(12, 1, 1)}},
		{"xor({a:1}@5,{a:1,b:1}@5)", with(1, 1), []api.Offer{bid(5, 1)}},
		{"xor({a:1,b:1}@5,{a:1}@5)", with(4, 4), []api.Offer{bid(5, 1)}},
		{"xor({a:1}@5,{a:1,b:1}@6)", with(1, 1), []api.Offer{bid(5, 1), bid(6, 1, 1)}},
		{"xor({a:1}@5,{b:1}@7)", with(1, 1), []api.Offer{bid(7, 0, 1), bid(5, 1)}},
		{"xor({a:1,b:1}@5,{a:1}@6)", with(1, 1), []api.Offer{bid(6, 1)}},
		{"{a:1}@5", with(4), []api.Offer{bid(5, 1)}},
		{"{a:2,f:1}@5", with(3, 0, 0, 0, 0, 2), []api.Offer{bid(5, 2, 0, 0, 0, 0, 1)}},
		{"{a:2}@5", with(1, 4), nil},
		{"{a:1}@5", with(), nil},
		{"or({a:1}@5,{a:1}@7)", with(1), []api.Offer{bid(7, 1)}},
		{"or({a:1}@5,{a:1}@7)", with(4), []api.Offer{bid(7, 1), bid(12, 2)}},
		{"or({a:1}@5,{c:1}@7)", with(1, 4, 1), []api.Offer{bid(7, 0, 0, 1), bid(5, 1), bid(12, 1, 0, 1)}},
		{"bonus(or({a:1}@5,{b:1}@7),{a:1,b:1}@3)", with(2, 2), []api.Offer{bid(7, 0, 1), bid(5, 1), bid(15, 1, 1)}},
		{"limit(or({a:1}@5,{b:1}@7),10)", with(1, 1), []api.Offer{bid(7, 0, 1), bid(5, 1), bid(10, 1, 1)}},
		{"limit(or({a:1}@5,{b:1}@7),7)", with(1, 1), []api.Offer{bid(7, 0, 1), bid(5, 1)}},
		{"limit(or({a:1}@5,{b:1}@7),4)", with(2, 2), []api.Offer{bid(4, 0, 1), bid(4, 1)}},
		{"or({a:1}@1000000,{b:1}@1)", with(1, 1), []api.Offer{bid(1, 0, 1), bid(most, 1)}},
		{"or({a:1}@999999,{b:1}@1)", with(1, 1), []api.Offer{bid(1, 0, 1), bid(most-1, 1), bid(most, 1, 1)}},
	}
	for _, c := range cases {
		got, err := flatten.Offers(read(c.text), c.supply)
		expectOffers(t, c.text, got, err, c.want)
	}
}

// badExprs are expressions with each error of expr.Check.
func badExprs() map[api.Errno][]api.Expr {
	five := read("{a:1}@5")
	or := func(list ...api.Expr) api.Expr { return api.Expr{Op: api.Or, Args: list} }
	deep := five
	for range depth {
		deep = or(deep)
	}
	full := or(slices.Repeat([]api.Expr{five}, args)...)
	return map[api.Errno][]api.Expr{
		api.ErrDepth:  {deep, or(five, deep), or(or(slices.Repeat([]api.Expr{five}, args+1)...), deep)},
		api.ErrLong:   {or(slices.Repeat([]api.Expr{five}, args+1)...), or(full, full, full, full, five, five, five, five)},
		api.ErrFormat: {{}, or(), {Op: api.Limit + 1, Args: []api.Expr{five}}, or(five, or())},
		api.ErrRange:  {{Op: api.Atom, Want: with(1)}, {Op: api.Atom, Value: 5}, {Op: api.Atom, Want: with(1), Value: most + 1}, {Op: api.Atom, Want: with(5), Value: 5}},
	}
}

// P14.1: the errors of the expression, before those of the supply
func TestOffersOfInvalidExpressions(t *testing.T) {
	for want, list := range badExprs() {
		for _, e := range list {
			if err := expr.Check(e); err != want {
				t.Fatalf("the error of %v is %v, not %v", e, err, want)
			}
			for _, supply := range slices.Concat(badBundles(), noSupplies, supplies) {
				got, err := flatten.Offers(e, supply)
				expectNoOffers(t, "an invalid expression", got, err, want)
			}
		}
	}
}

// P14.1: the errors of the supply: ErrRange for bundles that are not valid, ErrLong for those that are no supplies
func TestOffersWithoutSupply(t *testing.T) {
	for _, text := range []string{"{a:1}@5", "{f:1}@5", "or({a:1}@5,{b:1}@7)"} {
		for _, supply := range append(badBundles(), with(5, 4, 4, 4, 4, 4)) {
			got, err := flatten.Offers(read(text), supply)
			expectNoOffers(t, "a supply that is not valid", got, err, api.ErrRange)
		}
		for _, supply := range noSupplies {
			got, err := flatten.Offers(read(text), supply)
			expectNoOffers(t, "a supply with too many bundles", got, err, api.ErrLong)
		}
	}
}

// P14.1: lists with exactly 40 offers, and with more
func TestNumberOfOffers(t *testing.T) {
	const left = "or({a:1}@3,{a:1}@3,{b:1}@5,{b:1}@4,{c:1}@1)" // 17 bundles
	cases := []struct {
		right  string
		supply api.Bundle
		count  int
	}{
		{"or({d:1}@9,{e:1}@5,{e:1}@4,{f:1}@3,{f:1}@2,{f:1}@1)", with(2, 2, 1, 1, 2, 3), 40},
		{"or({d:1}@9,{e:1}@5,{e:1}@4,{f:1}@3,{f:1}@2,{f:1}@1)", with(2, 2, 1, 1, 2, 2), 34},
		{"or({e:1}@9,{e:1}@5,{e:1}@4,{e:1}@3,{f:1}@2,{f:1}@1,{f:1}@1,{f:1}@1)", with(2, 2, 1, 0, 4, 4), 41},
		{"or({e:1}@9,{e:1}@5,{e:1}@4,{e:1}@3,{f:1}@2,{f:1}@1,{f:1}@1,{f:1}@1)", with(2, 2, 1, 0, 4, 3), 36},
		{"or({d:1}@9,{d:1}@9,{d:1}@9,{d:1}@9,{e:1}@5,{f:1}@3,{f:1}@2,{f:1}@1)", with(2, 1, 1, 4, 1, 3), 50},
	}
	for _, c := range cases {
		e := read("xor(" + left + "," + c.right + ")")
		table, _ := valuation.Table(e, c.supply)
		want := minimalByDefinition(table, c.supply)
		if len(want) != c.count {
			t.Fatalf("the list of %s has %d offers, not %d", c.right, len(want), c.count)
		}
		got, err := flatten.Offers(e, c.supply)
		if c.count > longest {
			expectNoOffers(t, c.right, got, err, api.ErrLong)
		} else {
			expectOffers(t, c.right, got, err, want)
		}
	}
}

// P14.1: random expressions, by the definition of the minimal list
func TestOffersByDefinition(t *testing.T) {
	source := newSource()
	short := 0
	large := supplies[10:]
	for i := range 1200 {
		supply := supplies[i%10]
		e := validExpr(source, with(2, 2, 1, 1, 1, 1))
		if i%20 == 0 {
			supply = large[i/20%len(large)]
			e = api.Expr{Op: api.Or}
			for range 1 + source.IntN(args) {
				var wants api.Bundle
				wants[source.IntN(len(wants))] = 2
				e.Args = append(e.Args, someExpr(source, wants, 2))
			}
		}
		table, err := valuation.Table(e, supply)
		if err != api.OK {
			t.Fatalf("Table(%v, %v) is the error %v", e, supply, err)
		}
		want := minimalByDefinition(table, supply)
		got, err := flatten.Offers(e, supply)
		if len(want) > longest {
			expectNoOffers(t, "a long list", got, err, api.ErrLong)
			continue
		}
		short++
		expectOffers(t, "a random expression", got, err, want)
	}
	if short < 1000 || short > 1195 {
		t.Errorf("%d of 1200 lists are not too long", short)
	}
}
