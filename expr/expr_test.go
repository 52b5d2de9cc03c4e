package expr_test

import (
	"math"
	"slices"
	"testing"

	"saleroom/api"
	"saleroom/expr"
)

// expectSize expects the size and the depth of e.
func expectSize(t *testing.T, e api.Expr, size, levels int) {
	t.Helper()
	if got := expr.Size(e); got != size {
		t.Errorf("Size(%v) = %d, want %d", e, got, size)
	}
	if got := expr.Depth(e); got != levels {
		t.Errorf("Depth(%v) = %d, want %d", e, got, levels)
	}
}

// P11.2: the examples of the chapter, and expressions that are not valid
func TestSizeAndDepth(t *testing.T) {
	expectSize(t, or(atom(5, 1), atom(3, 1, 1)), 3, 2)
	expectSize(t, example(), 4, 3)
	expectSize(t, mixed(), 12, depth)
	expectSize(t, largest(), nodes, depth)
	expectSize(t, atom(1, 1), 1, 1)
	expectSize(t, api.Expr{}, 1, 1)
	expectSize(t, api.Expr{Op: -1, Args: []api.Expr{}}, 1, 1)
	expectSize(t, api.Expr{Args: []api.Expr{{}}}, 2, 2)
	expectSize(t, api.Expr{Op: api.Atom, Args: []api.Expr{{}, {Args: []api.Expr{{}}}, {}}}, 5, 3)
	expectSize(t, xor(), 1, 1)
	for n := range 3 * nodes {
		expectSize(t, or(make([]api.Expr, n)...), 1+n, min(2, 1+n))
		expectSize(t, chain(1+n), 1+n, 1+n)
		expectSize(t, or(atom(1, 1), chain(1+n), atom(1, 1)), n+4, n+2)
	}
}

// P11.2: random expressions
func TestSizeAndDepthOfManyExpressions(t *testing.T) {
	source := newSource()
	for range 3000 {
		e := anyExpr(source, 6)
		expectSize(t, e, len(preorder(&e)), depthByDefinition(e))
	}
}

// P11.3: an expression, and each change of one field of one node
func TestEqual(t *testing.T) {
	changes := []func(*api.Expr){
		func(node *api.Expr) { node.Op++ },
		func(node *api.Expr) { node.Op = -node.Op },
		func(node *api.Expr) { node.Value++ },
		func(node *api.Expr) { node.Value += 1 << 32 },
		func(node *api.Expr) { node.Value = math.MinInt64 },
		func(node *api.Expr) { node.Args = append(node.Args, atom(1, 1)) },
		func(node *api.Expr) { node.Args = append([]api.Expr{{}}, node.Args...) },
		func(node *api.Expr) { *node = xor(*node) },
	}
	for k := range api.MaxProducts {
		changes = append(changes, func(node *api.Expr) { node.Want[k]-- })
	}
	whole := mixed()
	expectEqual(t, whole, mixed(), true)
	for i, node := range preorder(&whole) {
		for _, change := range changes {
			e := mixed()
			change(preorder(&e)[i])
			expectEqual(t, whole, e, false)
		}
		if len(node.Args) == 0 {
			continue
		}
		e := mixed()
		fewer := preorder(&e)[i]
		fewer.Args = fewer.Args[:len(fewer.Args)-1]
		expectEqual(t, whole, e, false)
		e = mixed()
		fewer = preorder(&e)[i]
		fewer.Args = fewer.Args[1:]
		expectEqual(t, whole, e, false)
	}
}

// expectEqual expects the result of Equal for a and b in both orders.
func expectEqual(t *testing.T, a, b api.Expr, want bool) {
	t.Helper()
	for range 2 {
		if got := expr.Equal(a, b); got != want {
			t.Errorf("Equal(%v, %v) is %v", a, b, got)
		}
		a, b = b, a
	}
}

// P11.3: the order of the arguments counts, whatever the operation is; no arguments are no arguments (R3).
func TestEqualArguments(t *testing.T) {
	expectEqual(t, or(atom(5, 1), atom(7, 0, 1)), or(atom(5, 1), atom(7, 0, 1)), true)
	expectEqual(t, or(atom(5, 1), atom(7, 0, 1)), or(atom(7, 0, 1), atom(5, 1)), false)
	expectEqual(t, xor(atom(5, 1), atom(7, 0, 1)), xor(atom(7, 0, 1), atom(5, 1)), false)
	expectEqual(t, or(atom(5, 1), atom(7, 0, 1)), xor(atom(5, 1), atom(7, 0, 1)), false)
	expectEqual(t, or(atom(5, 1)), or(atom(5, 1), atom(5, 1)), false)
	expectEqual(t, or(or(atom(5, 1))), or(atom(5, 1)), false)
	expectEqual(t, or(or(atom(5, 1)), atom(5, 1)), or(or(atom(5, 1), atom(5, 1))), false)
	expectEqual(t, api.Expr{}, api.Expr{}, true)
	expectEqual(t, api.Expr{}, api.Expr{Args: []api.Expr{}}, true)
	expectEqual(t, api.Expr{}, api.Expr{Args: mixed().Args[:0]}, true)
	expectEqual(t, api.Expr{}, api.Expr{Args: []api.Expr{{}}}, false)
	expectEqual(t, or(mixed().Args[:2:2]...), or(mixed().Args[:2]...), true)
}

// P11.3: random expressions, half of them with a change
func TestEqualOfManyExpressions(t *testing.T) {
	source := newSource()
	count := 0
	for range 20000 {
		a := anyExpr(source, 3)
		b := anyExpr(source, 2)
		if source.IntN(3) > 0 {
			b = clone(a)
			all := preorder(&b)
			node := all[source.IntN(len(all))]
			node.Op, node.Value, node.Want[source.IntN(6)] = source.IntN(8)-1, source.Int64N(5)-2, source.IntN(9)-2
		}
		if same(a, b) {
			count++
		}
		expectEqual(t, a, b, same(a, b))
		expectEqual(t, a, clone(a), true)
	}
	if count < 20 {
		t.Errorf("only %d of the random expressions are equal", count)
	}
}

// clone returns a copy of e that shares no memory with it.
func clone(e api.Expr) api.Expr {
	e.Args = slices.Clone(e.Args)
	for i, arg := range e.Args {
		e.Args[i] = clone(arg)
	}
	return e
}

// expectProducts expects the quantities from Products(e).
func expectProducts(t *testing.T, e api.Expr, want ...int) {
	t.Helper()
	if got := expr.Products(e); got != with(want...) {
		t.Errorf("Products(%v) = %v, want %v", e, got, want)
	}
}

// P11.4: the examples of the chapter, and nodes of every operation
func TestProducts(t *testing.T) {
	expectProducts(t, or(atom(5, 2), atom(3, 1, 1)), 2, 1)
	expectProducts(t, example(), 1, 1)
	expectProducts(t, mixed(), 2, 2, 1, 4, 0, 3)
	expectProducts(t, largest(), 4)
	expectProducts(t, atom(5, 0, 0, 3), 0, 0, 3)
	expectProducts(t, bonus(atom(5, 1, 2, 3), 1, 3, 2, 1), 3, 2, 3)
	expectProducts(t, api.Expr{})
}

// P11.4: expressions that are not valid
func TestProductsOfBadExpressions(t *testing.T) {
	expectProducts(t, atom(0, -1))
	expectProducts(t, atom(0, math.MinInt, math.MaxInt, -1, 0, 5, 24), 0, math.MaxInt, 0, 0, 5, 24)
	expectProducts(t, xor(atom(1, -1, 2), atom(1, -2, -1)), 0, 2)
	for op := -1; op <= 6; op++ {
		e := api.Expr{Op: op, Want: with(1, 5, 0, 7), Args: []api.Expr{{Op: op, Want: with(3, -4, -2, 6)}, atom(-5, 2)}}
		expectProducts(t, e, 3, 5, 0, 7)
	}
	source := newSource()
	for range 3000 {
		e := anyExpr(source, 4)
		var want api.Bundle
		for _, node := range preorder(&e) {
			for k, quantity := range node.Want {
				if quantity > want[k] {
					want[k] = quantity
				}
			}
		}
		expectProducts(t, e, want[:]...)
	}
}

// expectAtoms expects the Atoms of e.
func expectAtoms(t *testing.T, e api.Expr, want ...api.Expr) {
	t.Helper()
	if got := expr.Atoms(e); !slices.EqualFunc(got, want, same) {
		t.Errorf("Atoms(%v) = %v, want %v", e, got, want)
	}
}

// P11.4: the example of the chapter, and Atoms of every depth
func TestAtoms(t *testing.T) {
	expectAtoms(t, example(), atom(5, 1), atom(7, 0, 1))
	expectAtoms(t, mixed(), atom(5, 1), atom(7, 0, 2), atom(3, 0, 0, 1), atom(9, 2), atom(1, 0, 0, 0, 0, 0, 3))
	expectAtoms(t, atom(5, 1), atom(5, 1))
	expectAtoms(t, or(atom(5, 1), atom(5, 1)), atom(5, 1), atom(5, 1))
	expectAtoms(t, chain(30), atom(1, 1))
	expectAtoms(t, xor())
	expectAtoms(t, api.Expr{})
}

// P11.4: expressions that are not valid, with Atoms in Atoms among them
func TestAtomsOfBadExpressions(t *testing.T) {
	inner := atom(-1, -2)
	outer := atom(1, 1)
	outer.Args = []api.Expr{xor(inner), inner}
	expectAtoms(t, outer, outer, inner, inner)
	expectAtoms(t, bonus(outer, 1, 1), outer, inner, inner)
	source := newSource()
	for range 3000 {
		e := anyExpr(source, 4)
		var want []api.Expr
		for _, node := range preorder(&e) {
			if node.Op == api.Atom {
				want = append(want, *node)
			}
		}
		expectAtoms(t, e, want...)
	}
}

// R8: an expression with 2^16 levels of nesting, and one with many arguments
func TestLargeExpressions(t *testing.T) {
	for _, e := range []api.Expr{chain(1 << 16), or(slices.Repeat([]api.Expr{xor(), limit(xor(), 1)}, 1<<16)...)} {
		size, levels := 1<<16, 1<<16
		if len(e.Args) > 1 {
			size, levels = 1+3<<16, 3
		}
		expectSizeOf(t, e, size, levels)
		count := 0
		other := expr.Map(e, func(node api.Expr) api.Expr {
			count++
			return node
		})
		if count != size || !expr.Equal(other, e) || !expr.Equal(expr.Copy(e), e) {
			t.Errorf("Map calls its function %d times, or Map or Copy is not Equal", count)
		}
		expectSizeOf(t, other, size, levels)
		if got := len(expr.Atoms(e)); got != len(expr.Atoms(e.Args[0])) {
			t.Errorf("a large expression has %d Atoms", got)
		}
		if got := expr.Products(e); got != expr.Products(e.Args[0]) {
			t.Errorf("a large expression has the products %v", got)
		}
	}
	expectCheckOf(t, chain(1<<16), api.ErrDepth)
	expectCheckOf(t, or(slices.Repeat([]api.Expr{atom(1, 1)}, 1<<16)...), api.ErrLong)
}

// expectSizeOf expects the size and the depth of an expression that is too large to be shown.
func expectSizeOf(t *testing.T, e api.Expr, size, levels int) {
	t.Helper()
	if got := expr.Size(e); got != size {
		t.Errorf("Size of a large expression is %d, want %d", got, size)
	}
	if got := expr.Depth(e); got != levels {
		t.Errorf("Depth of a large expression is %d, want %d", got, levels)
	}
}
