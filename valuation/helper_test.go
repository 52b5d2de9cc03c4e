package valuation_test

import (
	"math"
	"math/rand/v2"
	"slices"
	"testing"

	"saleroom/api"
	"saleroom/expr"
	"saleroom/exprtext"
	"saleroom/valuation"
)

// Limits of the chapter and of the layers below.
const (
	units    = 4       // the most units of a product
	packages = 1024    // the greatest number of bundles within a supply
	depth    = 6       // the greatest depth
	nodes    = 40      // the greatest size
	args     = 8       // the most arguments of a node
	most     = 1000000 // the greatest value
)

// newSource returns a source of the same numbers in every run.
func newSource() *rand.Rand {
	return rand.New(rand.NewPCG(23, 24))
}

// with returns the bundle of the quantities, and 0 for the other products.
func with(quantities ...int) api.Bundle {
	var b api.Bundle
	copy(b[:], quantities)
	return b
}

// full returns the bundle with as many units as possible.
func full() api.Bundle {
	return with(units, units, units, units, units, units)
}

// read returns the expression with the text, of the products a to f.
func read(text string) api.Expr {
	var products []api.Product
	for _, name := range []string{"a", "b", "c", "d", "e", "f"} {
		products = append(products, api.Product{Name: name, Supply: 1})
	}
	e, err := exprtext.Parse(products, text)
	if err != api.OK {
		panic(text)
	}
	return e
}

// atom returns an Atom.
func atom(value int64, want ...int) api.Expr {
	return api.Expr{Op: api.Atom, Want: with(want...), Value: value}
}

// or returns an Or.
func or(args ...api.Expr) api.Expr {
	return api.Expr{Op: api.Or, Args: args}
}

// badExpr is an expression that is not valid, with its error.
type badExpr struct {
	e   api.Expr
	err api.Errno
}

// badExprs are expressions with each error of expr.Check. Where it can be, they have an Atom that would be worth 5.
func badExprs() []badExpr {
	five := atom(5, 1)
	deep := five
	for range depth {
		deep = or(deep)
	}
	wide := or(slices.Repeat([]api.Expr{five}, args)...)
	return []badExpr{
		{deep, api.ErrDepth},
		{or(or(slices.Repeat([]api.Expr{five}, args+1)...), deep), api.ErrDepth},
		{or(slices.Repeat([]api.Expr{five}, args+1)...), api.ErrLong},
		{or(wide, wide, wide, wide, five, five, five, five), api.ErrLong},
		{api.Expr{}, api.ErrFormat},
		{or(), api.ErrFormat},
		{api.Expr{Op: api.Limit + 1, Args: []api.Expr{five}}, api.ErrFormat},
		{api.Expr{Op: api.Or, Value: 1, Args: []api.Expr{five}}, api.ErrFormat},
		{api.Expr{Op: api.Xor, Want: with(1), Args: []api.Expr{five}}, api.ErrFormat},
		{api.Expr{Op: api.Limit, Want: with(1), Value: 9, Args: []api.Expr{five}}, api.ErrFormat},
		{api.Expr{Op: api.Limit, Value: 9, Args: []api.Expr{five, five}}, api.ErrFormat},
		{api.Expr{Op: api.Bonus, Want: with(1), Value: 9}, api.ErrFormat},
		{api.Expr{Op: api.Atom, Want: with(1), Value: 5, Args: []api.Expr{five}}, api.ErrFormat},
		{or(five, or()), api.ErrFormat},
		{atom(0, 1), api.ErrRange},
		{atom(-5, 1), api.ErrRange},
		{atom(most+1, 1), api.ErrRange},
		{atom(math.MaxInt64, 1), api.ErrRange},
		{atom(5), api.ErrRange},
		{atom(5, 1, -1), api.ErrRange},
		{atom(5, units+1), api.ErrRange},
		{api.Expr{Op: api.Limit, Value: 0, Args: []api.Expr{five}}, api.ErrRange},
		{api.Expr{Op: api.Bonus, Value: 9, Args: []api.Expr{five}}, api.ErrRange},
		{or(five, atom(0, 1)), api.ErrRange},
	}
}

// badBundles are bundles that are not valid.
func badBundles() []api.Bundle {
	var all []api.Bundle
	for _, quantity := range []int{-1, units + 1, -units, 6, 256, 1<<32 + 1, 1 << 62, math.MaxInt, math.MinInt} {
		for k := range api.MaxProducts {
			for _, b := range []api.Bundle{with(), with(1, 1, 1, 1, 1, 1), full()} {
				b[k] = quantity
				all = append(all, b)
			}
		}
	}
	return all
}

// noSupplies are valid bundles within which there are more than 1024 bundles, some of them few more.
var noSupplies = []api.Bundle{
	with(4, 3, 2, 2, 2, 1), // 1080
	with(1, 2, 2, 2, 3, 4), // 1080
	with(4, 4, 4, 2, 2),    // 1125
	with(0, 4, 4, 4, 4, 4), // 3125
	full(),                 // 15625
}

// eachUpTo calls use with every bundle within last in ascending order, product by product from the first one.
func eachUpTo(last api.Bundle, use func(api.Bundle)) {
	var choose func(api.Bundle, int)
	choose = func(b api.Bundle, k int) {
		if k == len(b) {
			use(b)
			return
		}
		for b[k] = 0; b[k] <= last[k]; b[k]++ {
			choose(b, k+1)
		}
	}
	choose(api.Bundle{}, 0)
}

// isWithin reports whether no quantity of a is greater than that of b.
func isWithin(a, b api.Bundle) bool {
	for k := range a {
		if a[k] > b[k] {
			return false
		}
	}
	return true
}

// someBundle returns a random bundle within last.
func someBundle(source *rand.Rand, last api.Bundle) api.Bundle {
	var b api.Bundle
	for k := range b {
		b[k] = source.IntN(last[k] + 1)
	}
	return b
}

// someWant returns a random bundle within last that is not empty, most of them with few units.
func someWant(source *rand.Rand, last api.Bundle) api.Bundle {
	for {
		b := someBundle(source, last)
		if source.IntN(3) > 0 {
			b = someBundle(source, b)
		}
		if b != (api.Bundle{}) {
			return b
		}
	}
}

// someValue returns a random valid value, at times one that is a great part of the greatest one.
func someValue(source *rand.Rand) int64 {
	if source.IntN(5) == 0 {
		return 1 + source.Int64N(most)
	}
	return 1 + source.Int64N(30)
}

// someExpr returns a random expression of at most the given depth whose nodes are valid; it can have too many. What its
// nodes want is within last.
func someExpr(source *rand.Rand, last api.Bundle, levels int) api.Expr {
	op := 1 + source.IntN(5)
	if levels == 1 {
		op = api.Atom
	}
	e := api.Expr{Op: op}
	if op == api.Atom || op == api.Bonus {
		e.Want = someWant(source, last)
	}
	if op != api.Xor && op != api.Or {
		e.Value = someValue(source)
	}
	count := 1
	switch op {
	case api.Atom:
		count = 0
	case api.Xor, api.Or:
		count = 1 + source.IntN(4)
	}
	for range count {
		e.Args = append(e.Args, someExpr(source, last, levels-1))
	}
	return e
}

// validExpr returns a random valid expression whose nodes want bundles within last.
func validExpr(source *rand.Rand, last api.Bundle) api.Expr {
	for {
		if e := someExpr(source, last, 1+source.IntN(depth)); expr.Check(e) == api.OK {
			return e
		}
	}
}

// expectValue expects the value of b under e.
func expectValue(t *testing.T, e api.Expr, b api.Bundle, want int64) {
	t.Helper()
	if got := valuation.Value(e, b); got != want {
		t.Errorf("Value(%v, %v) = %d, want %d", e, b, got, want)
	}
}

// expectTable expects the table of e within supply.
func expectTable(t *testing.T, e api.Expr, supply api.Bundle, want []int64) {
	t.Helper()
	if got, err := valuation.Table(e, supply); err != api.OK || !slices.Equal(got, want) {
		t.Errorf("Table(%v, %v) = %v, %v, want %v", e, supply, got, err, want)
	}
}

// expectNoTable expects the error from Table(e, supply).
func expectNoTable(t *testing.T, e api.Expr, supply api.Bundle, want api.Errno) {
	t.Helper()
	if got, err := valuation.Table(e, supply); err != want || len(got) != 0 {
		t.Errorf("Table(%v, %v) = %v, %v, want %v", e, supply, got, err, want)
	}
}
