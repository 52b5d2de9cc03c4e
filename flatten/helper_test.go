package flatten_test

import (
	"math"
	"math/rand/v2"
	"slices"
	"testing"

	"saleroom/api"
	"saleroom/expr"
	"saleroom/exprtext"
)

// Limits of the chapter and of the layers below.
const (
	units    = 4       // the most units of a product
	packages = 1024    // the greatest number of bundles within a supply
	depth    = 6       // the greatest depth of an expression
	args     = 8       // the most arguments of a node
	longest  = 40      // the most offers of a list
	most     = 1000000 // the greatest value
)

// newSource returns a source of the same numbers in every run.
func newSource() *rand.Rand {
	return rand.New(rand.NewPCG(31, 14))
}

// with returns the bundle of the quantities, and 0 for the other products.
func with(quantities ...int) api.Bundle {
	var b api.Bundle
	copy(b[:], quantities)
	return b
}

// wild are quantities and values that overflow or are small modulo a power of 2.
var wild = []int{math.MinInt, math.MinInt + 1, -1 << 32, 1 << 32, 1<<32 + 1, math.MaxInt - 1, math.MaxInt}

// badBundles are bundles that are not valid.
func badBundles() []api.Bundle {
	var all []api.Bundle
	for _, quantity := range append([]int{-1, -units, units + 1, 6, 256}, wild...) {
		for k := range api.MaxProducts {
			for _, b := range []api.Bundle{with(), with(1, 1), with(1, 1, 1, 1, 1, 1)} {
				b[k] = quantity
				all = append(all, b)
			}
		}
	}
	return all
}

// noSupplies are valid bundles within which there are more than 1024 bundles, some of them few more.
var noSupplies = []api.Bundle{
	with(4, 3, 2, 2, 2, 1), // 1080
	with(1, 2, 2, 2, 3, 4), // 1080
	with(4, 4, 4, 2, 2),    // 1125
	with(4, 4, 4, 4, 4, 4), // 15625
}

// supplies are bundles within which there are 1 to 1024 bundles.
var supplies = []api.Bundle{
	with(), with(1), with(4), with(0, 0, 0, 0, 0, 3), with(1, 1), with(2, 2), with(0, 2, 0, 1), with(4, 4), with(1, 1, 1), with(3, 1, 2),
	with(1, 1, 1, 1, 1, 1), with(2, 2, 2, 2, 2, 2), with(4, 4, 4, 3, 1), with(3, 3, 3, 3, 3),
}

// read returns the expression with the text, of the products a to f.
func read(text string) api.Expr {
	var products []api.Product
	for _, name := range []string{"a", "b", "c", "d", "e", "f"} {
		products = append(products, api.Product{Name: name, Supply: 1})
	}
	e, err := exprtext.Parse(products, text)
	if err != api.OK {
		panic(text)
	}
	return e
}

// bid returns the offer of the value for the bundle of the quantities.
func bid(value int64, quantities ...int) api.Offer {
	return api.Offer{Want: with(quantities...), Value: value}
}

// of returns the offers as those of a bidder.
func of(bidder int, l ...api.Offer) []api.Offer {
	l = slices.Clone(l)
	for i := range l {
		l[i].Bidder = bidder
	}
	return l
}

// someBundle returns a random bundle within last.
func someBundle(source *rand.Rand, last api.Bundle) api.Bundle {
	var b api.Bundle
	for k := range b {
		b[k] = source.IntN(last[k] + 1)
	}
	return b
}

// someOffers returns random offers of up to three bidders, some of them with values below 1.
func someOffers(source *rand.Rand, last api.Bundle, count int) []api.Offer {
	l := make([]api.Offer, 0, count)
	for range count {
		offer := api.Offer{Bidder: source.IntN(3), Want: someBundle(source, last), Value: source.Int64N(12) - 2}
		if len(l) > 0 && source.IntN(6) == 0 {
			offer = l[source.IntN(len(l))]
		}
		l = append(l, offer)
	}
	return l
}

// someExpr returns a random expression of at most the given depth whose nodes are valid; it can have too many. What its
// nodes want is within last, which has units.
func someExpr(source *rand.Rand, last api.Bundle, levels int) api.Expr {
	e := api.Expr{Op: api.Atom}
	if levels > 1 {
		e.Op = 1 + source.IntN(5)
	}
	for (e.Op == api.Atom || e.Op == api.Bonus) && e.Want == (api.Bundle{}) {
		e.Want = someBundle(source, last)
	}
	if e.Op != api.Xor && e.Op != api.Or {
		e.Value = 1 + source.Int64N([]int64{10, 100, most}[source.IntN(3)])
	}
	count := 1
	switch e.Op {
	case api.Atom:
		count = 0
	case api.Xor, api.Or:
		count = 1 + source.IntN(3)
	}
	for range count {
		e.Args = append(e.Args, someExpr(source, last, levels-1))
	}
	return e
}

// validExpr returns a random valid expression whose nodes want bundles within last, which has units.
func validExpr(source *rand.Rand, last api.Bundle) api.Expr {
	for {
		if e := someExpr(source, last, 1+source.IntN(depth)); expr.Check(e) == api.OK {
			return e
		}
	}
}

// expectOffers expects a list.
func expectOffers(t *testing.T, call string, got []api.Offer, err api.Errno, want []api.Offer) {
	t.Helper()
	if err != api.OK || !slices.Equal(got, want) {
		t.Errorf("%s gives %v, %v, want %v", call, got, err, want)
	}
}

// expectNoOffers expects an error and no list.
func expectNoOffers(t *testing.T, call string, got []api.Offer, err, want api.Errno) {
	t.Helper()
	if err != want || len(got) != 0 {
		t.Errorf("%s gives %v, %v, want %v", call, got, err, want)
	}
}
