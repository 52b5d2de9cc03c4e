package expr_test

import (
	"testing"

	"saleroom/api"
	"saleroom/expr"
)

// manyExprs returns random expressions, half of which have only valid nodes.
func manyExprs() []api.Expr {
	source := newSource()
	var all []api.Expr
	for range 2500 {
		all = append(all, anyExpr(source, 4), someExpr(source, depth))
	}
	return all
}

// P11.6: Map with the identity returns an Equal expression, and calls its function once for each node.
func TestMapWithIdentity(t *testing.T) {
	for _, e := range manyExprs() {
		calls := 0
		got := expr.Map(e, func(node api.Expr) api.Expr {
			calls++
			return node
		})
		expectExpr(t, "Map", got, e)
		if size := expr.Size(e); calls != size {
			t.Errorf("Map(%v) calls its function %d times, but the size is %d", e, calls, size)
		}
	}
}

// P11.6: the Atoms of an expression are those of its arguments, except for an Atom.
func TestAtomsOfArguments(t *testing.T) {
	for _, e := range manyExprs() {
		var want []api.Expr
		if e.Op == api.Atom {
			want = []api.Expr{e}
		}
		for _, arg := range e.Args {
			want = append(want, expr.Atoms(arg)...)
		}
		expectAtoms(t, e, want...)
	}
}

// P11.6: Equal is an equivalence; all triples of some expressions, of which several are equal
func TestEquivalence(t *testing.T) {
	source := newSource()
	var all []api.Expr
	for len(all) < 60 {
		e := api.Expr{Op: 1 + source.IntN(2), Value: source.Int64N(2)}
		for range source.IntN(3) {
			e.Args = append(e.Args, api.Expr{Op: 1 + source.IntN(2)})
		}
		all = append(all, e)
	}
	pairs := 0
	for i, a := range all {
		for j, b := range all {
			equal := expr.Equal(a, b)
			if expr.Equal(b, a) != equal || i == j && !equal {
				t.Fatalf("Equal is wrong for %v and %v", a, b)
			}
			if !equal || i == j {
				continue
			}
			pairs++
			for _, c := range all {
				if expr.Equal(b, c) != expr.Equal(a, c) {
					t.Fatalf("Equal is wrong for %v, %v and %v", a, b, c)
				}
			}
		}
	}
	if pairs < 20 {
		t.Errorf("only %d pairs are equal", pairs)
	}
}

// R3: no function changes its argument, nor the spare capacity of its lists.
func TestArgumentsStay(t *testing.T) {
	source := newSource()
	for range 2000 {
		e := spare(anyExpr(source, 4))
		whole := withSpare(e)
		expr.Check(e)
		expr.Size(e)
		expr.Depth(e)
		expr.Equal(e, e)
		expr.Products(e)
		expr.Atoms(e)
		expr.Copy(e)
		expr.Map(e, nil)
		expr.Map(e, doubled)
		expectExpr(t, "the expression", withSpare(e), whole)
	}
}

// P11.1: the nodes of a valid expression are valid, and so are its copies.
func TestValidParts(t *testing.T) {
	source := newSource()
	count := 0
	for range 5000 {
		e := someExpr(source, depth)
		if expr.Check(e) != api.OK {
			continue
		}
		count++
		for _, node := range preorder(&e) {
			expectCheck(t, *node, api.OK)
		}
		expectCheck(t, expr.Copy(e), api.OK)
	}
	if count < 500 {
		t.Errorf("only %d expressions are valid", count)
	}
}
