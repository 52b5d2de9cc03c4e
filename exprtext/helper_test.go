package exprtext_test

import (
	"math"
	"math/rand/v2"
	"slices"
	"strconv"
	"strings"
	"testing"

	"saleroom/api"
	"saleroom/expr"
	"saleroom/exprtext"
)

// Limits of the chapter and of the layers below.
const (
	products = 6       // the greatest number of products
	units    = 4       // the most units of a product
	depth    = 6       // the greatest depth
	nodes    = 40      // the greatest size
	args     = 8       // the most arguments of a node
	value    = 1000000 // the greatest value
	textSize = 4000    // the greatest size of a text
)

// newSource returns a source of the same numbers in every run.
func newSource() *rand.Rand {
	return rand.New(rand.NewPCG(21, 22))
}

// with returns the bundle of the quantities, and 0 for the other products.
func with(quantities ...int) api.Bundle {
	var b api.Bundle
	copy(b[:], quantities)
	return b
}

// atom returns an Atom.
func atom(value int64, want ...int) api.Expr {
	return api.Expr{Op: api.Atom, Want: with(want...), Value: value}
}

// xor returns an Xor.
func xor(args ...api.Expr) api.Expr {
	return api.Expr{Op: api.Xor, Args: args}
}

// or returns an Or.
func or(args ...api.Expr) api.Expr {
	return api.Expr{Op: api.Or, Args: args}
}

// bonus returns a Bonus.
func bonus(arg api.Expr, value int64, want ...int) api.Expr {
	return api.Expr{Op: api.Bonus, Want: with(want...), Value: value, Args: []api.Expr{arg}}
}

// limit returns a Limit.
func limit(arg api.Expr, value int64) api.Expr {
	return api.Expr{Op: api.Limit, Value: value, Args: []api.Expr{arg}}
}

// example returns the products of the chapter's examples.
func example() []api.Product {
	return []api.Product{{Name: "a", Supply: 2}, {Name: "b", Supply: 1}}
}

// named returns products with these names and one unit each.
func named(names ...string) []api.Product {
	var l []api.Product
	for _, name := range names {
		l = append(l, api.Product{Name: name, Supply: 1})
	}
	return l
}

// six returns six products, some of which are called like operations, and some as long as possible.
func six() []api.Product {
	return named("or", "xor1", "bonus", "abcdefghijkl", "z_9", "limit")
}

// mixed returns a valid expression for example with every operation, in which no two nodes are equal.
func mixed() api.Expr {
	return xor(
		bonus(or(atom(5, 1), atom(7, 0, 2), limit(xor(atom(3, 1, 1)), 2)), 4, 2, 1),
		limit(bonus(atom(9, 2), 6, 0, 4), 12),
		atom(1, 4, 3),
	)
}

// mixedText is the text of mixed.
const mixedText = "xor(bonus(or({a:1}@5,{b:2}@7,limit(xor({a:1,b:1}@3),2)),{a:2,b:1}@4),limit(bonus({a:2}@9,{b:4}@6),12),{a:4,b:3}@1)"

// chain returns an expression with a node for each of the levels, and its text.
func chain(levels int) (api.Expr, string) {
	e := atom(1, 1)
	for range levels - 1 {
		e = or(e)
	}
	return e, strings.Repeat("or(", levels-1) + "{a:1}@1" + strings.Repeat(")", levels-1)
}

// badList is a list that is not valid, with its error.
type badList struct {
	l   []api.Product
	err api.Errno
}

// badLists are lists with each error of catalog.Check. Where they have a product a, it is one that could be looked up.
func badLists() []badList {
	change := func(apply func(*api.Product)) []api.Product {
		l := example()
		apply(&l[1])
		return l
	}
	four := func(p *api.Product) { p.Supply = units }
	large := named("a", "b", "c", "d", "e", "f")
	for k := range large {
		four(&large[k])
	}
	return []badList{
		{nil, api.ErrShort},
		{[]api.Product{}, api.ErrShort},
		{named("a", "b", "c", "d", "e", "f", "g"), api.ErrLong},
		{make([]api.Product, 7), api.ErrLong},
		{make([]api.Product, 2), api.ErrName},
		{change(func(p *api.Product) { p.Name = "B" }), api.ErrName},
		{change(func(p *api.Product) { p.Name = "a" }), api.ErrExists},
		{change(func(p *api.Product) { p.Supply = 0 }), api.ErrRange},
		{change(func(p *api.Product) { p.Supply = 5 }), api.ErrRange},
		{change(func(p *api.Product) { p.Reserve = value + 1 }), api.ErrRange},
		{change(func(p *api.Product) { p.Points = -1 }), api.ErrRange},
		{change(func(p *api.Product) { p.Group = 5 }), api.ErrRange},
		{large, api.ErrLimit},
	}
}

// wild are numbers that are out of every range of the chapter, some of them in range modulo a power of 2.
var wild = []int{-1, -2, -256, 1<<32 + 1, 1<<32 + 2, -(1 << 32), 1 << 62, math.MaxInt, math.MinInt, math.MinInt + 1}

// someList returns a random valid list of products, all with one unit, so that every number of them is valid.
func someList(source *rand.Rand) []api.Product {
	names := []string{"a", "b", "or", "xor", "bonus", "limit", "x_1", "abcdefghijkl", "atom", "z9"}
	source.Shuffle(len(names), func(i, j int) { names[i], names[j] = names[j], names[i] })
	return named(names[:1+source.IntN(products)]...)
}

// someBundle returns a random valid bundle of the first n products with at least one unit.
func someBundle(source *rand.Rand, n int) api.Bundle {
	var b api.Bundle
	for b == (api.Bundle{}) {
		for k := range n {
			b[k] = max(0, source.IntN(2*units+1)-units)
		}
	}
	return b
}

// someValue returns a random valid value.
func someValue(source *rand.Rand) int64 {
	most := []int64{9, 99, 1000, value}[source.IntN(4)]
	return 1 + source.Int64N(most)
}

// someExpr returns a random expression for n products of at most the given depth, whose nodes are valid; it can have too many.
func someExpr(source *rand.Rand, n, levels int) api.Expr {
	op := 1 + source.IntN(5)
	if levels == 1 {
		op = api.Atom
	}
	e := api.Expr{Op: op}
	if op == api.Atom || op == api.Bonus {
		e.Want = someBundle(source, n)
	}
	if op != api.Xor && op != api.Or {
		e.Value = someValue(source)
	}
	count := 1
	switch op {
	case api.Atom:
		count = 0
	case api.Xor, api.Or:
		count = 1 + source.IntN(3)
	}
	for range count {
		e.Args = append(e.Args, someExpr(source, n, levels-1))
	}
	return e
}

// validExpr returns a random valid expression for n products.
func validExpr(source *rand.Rand, n int) api.Expr {
	for {
		if e := someExpr(source, n, 1+source.IntN(depth)); expr.Check(e) == api.OK {
			return e
		}
	}
}

// preorder returns pointers to the nodes of e in preorder.
func preorder(e *api.Expr) []*api.Expr {
	all := []*api.Expr{e}
	for i := range e.Args {
		all = append(all, preorder(&e.Args[i])...)
	}
	return all
}

// same reports whether a and b are the same in every field.
func same(a, b api.Expr) bool {
	return a.Op == b.Op && a.Want == b.Want && a.Value == b.Value && slices.EqualFunc(a.Args, b.Args, same)
}

// bundleText returns the text of a bundle, with the products in the given order.
func bundleText(l []api.Product, b api.Bundle, order []int) string {
	text := ""
	for _, k := range order {
		if b[k] > 0 {
			text += "," + l[k].Name + ":" + strconv.Itoa(b[k])
		}
	}
	return "{" + strings.TrimPrefix(text, ",") + "}"
}

// textOf follows the words of the chapter's definition of the text of an expression. The order of the products in each
// bundle is what order returns.
func textOf(l []api.Product, e api.Expr, order func() []int) string {
	number := strconv.FormatInt(e.Value, 10)
	var texts []string
	for _, arg := range e.Args {
		texts = append(texts, textOf(l, arg, order))
	}
	inside := strings.Join(texts, ",")
	switch e.Op {
	case api.Atom:
		return bundleText(l, e.Want, order()) + "@" + number
	case api.Xor:
		return "xor(" + inside + ")"
	case api.Or:
		return "or(" + inside + ")"
	case api.Bonus:
		return "bonus(" + inside + "," + bundleText(l, e.Want, order()) + "@" + number + ")"
	}
	return "limit(" + inside + "," + number + ")"
}

// inOrder returns the indices of the products of l.
func inOrder(l []api.Product) func() []int {
	return func() []int {
		var all []int
		for k := range l {
			all = append(all, k)
		}
		return all
	}
}

// expectFormat expects the text from Format(l, e).
func expectFormat(t *testing.T, l []api.Product, e api.Expr, want string) {
	t.Helper()
	if got, err := exprtext.Format(l, e); got != want || err != api.OK {
		t.Fatalf("Format(%v, %v) = %q, %v, want %q", l, e, got, err, want)
	}
}

// expectFormatError expects the error from Format(l, e).
func expectFormatError(t *testing.T, l []api.Product, e api.Expr, want api.Errno) {
	t.Helper()
	if got, err := exprtext.Format(l, e); got != "" || err != want {
		t.Fatalf("Format for %v = %q, %v, want %v", l, got, err, want)
	}
}

// expectParse expects the expression from Parse(l, text).
func expectParse(t *testing.T, l []api.Product, text string, want api.Expr) {
	t.Helper()
	expectParsed(t, l, text, want, api.OK)
}

// expectParseError expects the error from Parse(l, text).
func expectParseError(t *testing.T, l []api.Product, text string, want api.Errno) {
	t.Helper()
	expectParsed(t, l, text, api.Expr{}, want)
}

// expectParsed expects the expression and the error from Parse(l, text).
func expectParsed(t *testing.T, l []api.Product, text string, want api.Expr, e api.Errno) {
	t.Helper()
	if got, err := exprtext.Parse(l, text); !same(got, want) || err != e {
		t.Fatalf("Parse(%v, %.200q) = %v, %v, want %v, %v", l, text, got, err, want, e)
	}
}
