package exprtext_test

import (
	"slices"
	"strings"
	"testing"

	"saleroom/api"
	"saleroom/expr"
)

// P12.1: the examples of the chapter
func TestFormatExamples(t *testing.T) {
	expectFormat(t, example(), xor(atom(5, 1), atom(7, 0, 1)), "xor({a:1}@5,{b:1}@7)")
	expectFormat(t, example(), bonus(or(atom(5, 1), atom(7, 0, 1)), 2, 1, 1), "bonus(or({a:1}@5,{b:1}@7),{a:1,b:1}@2)")
	expectFormat(t, example(), limit(atom(30, 2), 20), "limit({a:2}@30,20)")
}

// P12.1: every operation, with the fewest and the most arguments, and with the least and the greatest numbers
func TestFormat(t *testing.T) {
	l := example()
	expectFormat(t, l, atom(1, 1), "{a:1}@1")
	expectFormat(t, l, atom(value, 4, 4), "{a:4,b:4}@1000000")
	expectFormat(t, l, atom(10, 0, 3), "{b:3}@10")
	expectFormat(t, l, xor(atom(5, 1)), "xor({a:1}@5)")
	expectFormat(t, l, or(atom(5, 1)), "or({a:1}@5)")
	expectFormat(t, l, or(atom(5, 1), atom(7, 0, 1)), "or({a:1}@5,{b:1}@7)")
	expectFormat(t, l, or(atom(5, 1), atom(5, 1), atom(3, 0, 1)), "or({a:1}@5,{a:1}@5,{b:1}@3)")
	expectFormat(t, l, xor(slices.Repeat([]api.Expr{atom(2, 1)}, args)...), "xor({a:1}@2"+strings.Repeat(",{a:1}@2", args-1)+")")
	expectFormat(t, l, or(slices.Repeat([]api.Expr{atom(2, 1)}, args)...), "or({a:1}@2"+strings.Repeat(",{a:1}@2", args-1)+")")
	expectFormat(t, l, bonus(atom(5, 1), 2, 1, 1), "bonus({a:1}@5,{a:1,b:1}@2)")
	expectFormat(t, l, bonus(atom(5, 1), value, 0, 4), "bonus({a:1}@5,{b:4}@1000000)")
	expectFormat(t, l, limit(atom(5, 1), 1), "limit({a:1}@5,1)")
	expectFormat(t, l, limit(atom(5, 1), value), "limit({a:1}@5,1000000)")
	expectFormat(t, l, mixed(), mixedText)
	for levels := 1; levels <= depth; levels++ {
		e, text := chain(levels)
		expectFormat(t, l, e, text)
	}
}

// P12.1: the products stand in the order of the list, which need not be that of their names; the names can be those of
// operations. The bundles need not be within the supply.
func TestFormatOfSixProducts(t *testing.T) {
	expectFormat(t, six(), atom(8, 1, 2, 3, 4, 3, 2), "{or:1,xor1:2,bonus:3,abcdefghijkl:4,z_9:3,limit:2}@8")
	expectFormat(t, six(), bonus(atom(8, 0, 0, 0, 0, 0, 1), 3, 4, 0, 0, 1), "bonus({limit:1}@8,{or:4,abcdefghijkl:1}@3)")
	expectFormat(t, named("b", "a"), xor(atom(5, 1), atom(7, 0, 1), atom(9, 1, 1)), "xor({b:1}@5,{a:1}@7,{b:1,a:1}@9)")
}

// P12.1: the errors of catalog.Check come first, for expressions that have every other error or none.
func TestFormatWithBadLists(t *testing.T) {
	deep, _ := chain(depth + 1)
	for _, bad := range badLists() {
		for _, e := range []api.Expr{atom(1, 1), mixed(), {}, atom(0, 1), deep, or(), atom(1, 0, 0, 0, 0, 0, 1), ofSize(t, textSize+1)} {
			expectFormatError(t, bad.l, e, bad.err)
		}
	}
}

// P12.1: the errors of expr.Check, which come before the one for a bundle that does not fit
func TestFormatOfBadExpressions(t *testing.T) {
	deep, _ := chain(depth + 1)
	many := slices.Repeat([]api.Expr{atom(1, 1)}, args+1)
	for _, unfit := range []api.Expr{atom(1, 1), atom(1, 0, 0, 1), atom(1, 0, 0, 0, 0, 0, 4)} {
		for _, c := range []struct {
			e    api.Expr
			want api.Errno
		}{
			{or(unfit, deep), api.ErrDepth},
			{or(append(many, unfit)...), api.ErrLong},
			{or(slices.Repeat([]api.Expr{or(unfit, unfit, unfit, unfit, unfit)}, 7)...), api.ErrLong},
			{or(unfit, or()), api.ErrFormat},
			{or(unfit, api.Expr{}), api.ErrFormat},
			{or(unfit, api.Expr{Op: 6}), api.ErrFormat},
			{or(unfit, api.Expr{Op: api.Limit, Value: 3}), api.ErrFormat},
			{or(unfit, atom(0, 1)), api.ErrRange},
			{or(unfit, atom(value+1, 1)), api.ErrRange},
			{or(unfit, atom(1)), api.ErrRange},
			{or(unfit, bonus(atom(1, 1), 1)), api.ErrRange},
			{or(unfit, atom(1, 5)), api.ErrRange},
			{or(unfit, limit(atom(1, 1), 0)), api.ErrRange},
		} {
			expectFormatError(t, example(), c.e, c.want)
		}
	}
}

// P12.1: extreme numbers at every node
func TestFormatOfExtremeNumbers(t *testing.T) {
	whole := mixed()
	for i, node := range preorder(&whole) {
		for _, n := range append([]int{5, 6, value + 1}, wild...) {
			e := mixed()
			preorder(&e)[i].Op = n
			if n != api.Limit {
				expectFormatError(t, example(), e, api.ErrFormat)
			}
			e = mixed()
			preorder(&e)[i].Value = int64(n)
			if node.Op == api.Xor || node.Op == api.Or {
				expectFormatError(t, example(), e, api.ErrFormat)
			} else if n < 1 || n > value {
				expectFormatError(t, example(), e, api.ErrRange)
			}
			for k := range products {
				e = mixed()
				preorder(&e)[i].Want[k] = n
				if node.Op == api.Atom || node.Op == api.Bonus {
					expectFormatError(t, example(), e, api.ErrRange)
				} else {
					expectFormatError(t, example(), e, api.ErrFormat)
				}
			}
		}
	}
}

// P12.1: one unit of a product that the list does not have, at every node that wants something
func TestFormatOfUnfitBundles(t *testing.T) {
	whole := mixed()
	for i, node := range preorder(&whole) {
		if node.Op != api.Atom && node.Op != api.Bonus {
			continue
		}
		for k := range products {
			for quantity := 1; quantity <= units; quantity++ {
				e := mixed()
				for _, other := range preorder(&e) {
					if other.Want != with() {
						other.Want = with(1)
					}
				}
				wanted := &preorder(&e)[i].Want
				*wanted = with()
				wanted[k] = quantity
				expectFit(t, e, k)
			}
		}
	}
	expectFormatError(t, named("a"), mixed(), api.ErrRange)
	expectFormatError(t, named("a"), atom(1, 1, 1), api.ErrRange)
}

// expectFit expects ErrRange from Format of e for the lists that do not have the product k, and a text for the others.
func expectFit(t *testing.T, e api.Expr, k int) {
	t.Helper()
	all := named("a", "b", "c", "d", "e", "f")
	for n := 1; n <= products; n++ {
		if l := all[:n]; n <= k {
			expectFormatError(t, l, e, api.ErrRange)
		} else {
			expectFormat(t, l, e, textOf(l, e, inOrder(l)))
		}
	}
}

// long returns a list with names that are as long as possible.
func long() []api.Product {
	return named("abcdefghijk1", "abcdefghijk2", "abcdefghijk3", "abcdefghijk4", "abcdefghijk5", "abcdefghijk6")
}

// ofSize returns a valid expression whose text has that many bytes with the products long.
func ofSize(t *testing.T, size int) api.Expr {
	t.Helper()
	all := with(4, 4, 4, 4, 4, 4)
	var list []api.Expr
	for _, levels := range []int{5, 5, 5, 5, 5, 5, 5, 4} {
		e := atom(value, all[:]...)
		for range levels - 1 {
			e = bonus(e, value, all[:]...)
		}
		list = append(list, e)
	}
	e := xor(list...)
	for _, node := range preorder(&e) {
		left := len(textOf(long(), e, inOrder(long()))) - size
		if node.Op == api.Xor || left <= 0 {
			continue
		}
		// Each product less shortens the text by 15 bytes, and each digit less by one.
		for k := 0; k < products-1 && left >= 15; k++ {
			node.Want[k] = 0
			left -= 15
		}
		for ; node.Value > 1 && left > 0; left-- {
			node.Value /= 10
		}
	}
	if expr.Check(e) != api.OK || len(textOf(long(), e, inOrder(long()))) != size {
		t.Fatalf("there is no expression whose text has %d bytes", size)
	}
	return e
}

// P12.1: the size of the text
func TestFormatOfLongTexts(t *testing.T) {
	for _, size := range []int{3000, 3900, 3990, textSize - 2, textSize - 1, textSize} {
		e := ofSize(t, size)
		expectFormat(t, long(), e, textOf(long(), e, inOrder(long())))
	}
	for _, size := range []int{textSize + 1, textSize + 2, textSize + 3, 4010, 4050, 4096, 4121} {
		expectFormatError(t, long(), ofSize(t, size), api.ErrLong)
	}
}

// P12.1: a bundle that does not fit comes before a text that is too long, wherever it is.
func TestFormatOfLongTextsOfUnfitBundles(t *testing.T) {
	whole := ofSize(t, 4121)
	for i := range preorder(&whole) {
		e := ofSize(t, 4121)
		for j, node := range preorder(&e) {
			if i != j && node.Op != api.Xor {
				node.Want[5] = 0
			}
		}
		if i > 0 {
			expectFormatError(t, long()[:5], e, api.ErrRange)
		}
	}
	expectFormatError(t, long()[:5], whole, api.ErrRange)
}

// R1: an expression that is among its own arguments has no end.
func TestFormatEnds(t *testing.T) {
	arguments := make([]api.Expr, 3)
	arguments[0], arguments[1], arguments[2] = atom(1, 1), or(arguments...), atom(1, 1)
	expectFormatError(t, example(), or(arguments...), api.ErrDepth)
	e := or(arguments...)
	for range 1000 {
		e = or(e, e)
	}
	expectFormatError(t, example(), e, api.ErrDepth)
}

// P12.1: random expressions, against the definition
func TestFormatOfManyExpressions(t *testing.T) {
	source := newSource()
	seen := map[api.Errno]int{}
	for range 50000 {
		l := someList(source)
		e := someExpr(source, min(products, len(l)+source.IntN(12)/11), 1+source.IntN(depth+1))
		want := expr.Check(e)
		if want == api.OK && !fits(l, e) {
			want = api.ErrRange
		}
		seen[want]++
		if want == api.OK {
			expectFormat(t, l, e, textOf(l, e, inOrder(l)))
		} else {
			expectFormatError(t, l, e, want)
		}
	}
	for _, e := range []api.Errno{api.OK, api.ErrDepth, api.ErrLong, api.ErrRange} {
		if seen[e] < 100 {
			t.Errorf("%v is the error of only %d expressions", e, seen[e])
		}
	}
}

// fits reports whether no node of e wants a product that the list does not have.
func fits(l []api.Product, e api.Expr) bool {
	for _, node := range preorder(&e) {
		for _, quantity := range node.Want[len(l):] {
			if quantity > 0 {
				return false
			}
		}
	}
	return true
}
