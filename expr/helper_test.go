package expr_test

import (
	"math"
	"math/rand/v2"
	"slices"
	"testing"

	"saleroom/api"
	"saleroom/expr"
)

// Limits of the chapter.
const (
	depth = 6       // the greatest depth
	nodes = 40      // the greatest size
	args  = 8       // the most arguments of a node
	units = 4       // the most units of a product
	value = 1000000 // the greatest value
)

// newSource returns a source of the same numbers in every run.
func newSource() *rand.Rand {
	return rand.New(rand.NewPCG(19, 20))
}

// with returns the bundle of the quantities, and 0 for the other products.
func with(quantities ...int) api.Bundle {
	var b api.Bundle
	copy(b[:], quantities)
	return b
}

// atom returns an Atom.
func atom(value int64, want ...int) api.Expr {
	return api.Expr{Op: api.Atom, Want: with(want...), Value: value}
}

// xor returns an Xor.
func xor(args ...api.Expr) api.Expr {
	return api.Expr{Op: api.Xor, Args: args}
}

// or returns an Or.
func or(args ...api.Expr) api.Expr {
	return api.Expr{Op: api.Or, Args: args}
}

// bonus returns a Bonus.
func bonus(arg api.Expr, value int64, want ...int) api.Expr {
	return api.Expr{Op: api.Bonus, Want: with(want...), Value: value, Args: []api.Expr{arg}}
}

// limit returns a Limit.
func limit(arg api.Expr, value int64) api.Expr {
	return api.Expr{Op: api.Limit, Value: value, Args: []api.Expr{arg}}
}

// example returns the example of the chapter, limit(or({a:1}@5,{b:1}@7),10).
func example() api.Expr {
	return limit(or(atom(5, 1), atom(7, 0, 1)), 10)
}

// mixed returns a valid expression with every operation, in which no two nodes are equal.
func mixed() api.Expr {
	return xor(
		bonus(or(atom(5, 1), atom(7, 0, 2), limit(xor(atom(3, 0, 0, 1)), 2)), 4, 1, 1),
		limit(bonus(atom(9, 2), 6, 0, 0, 0, 4), 12),
		atom(1, 0, 0, 0, 0, 0, 3),
	)
}

// largest returns a valid expression with as many nodes, as many arguments and as great a depth as possible.
func largest() api.Expr {
	wide := slices.Repeat([]api.Expr{atom(value, units)}, args)
	deep := bonus(limit(bonus(xor(wide...), value, 1), value), value, 1)
	return xor(deep, or(wide...), or(wide...), or(wide[:5]...), atom(1, 1), atom(2, 2), atom(3, 3))
}

// chain returns an expression with a node for each of the levels.
func chain(levels int) api.Expr {
	e := atom(1, 1)
	for range levels - 1 {
		e = xor(e)
	}
	return e
}

// wild are numbers that are out of every range of the chapter, some of them in range modulo a power of 2.
var wild = []int{-2, -3, -8, -256, 1<<32 + 1, 1<<32 + 2, -(1 << 32), 1 << 62, math.MaxInt, math.MinInt, math.MinInt + 1}

// someBundle returns a random valid bundle with at least one unit.
func someBundle(source *rand.Rand) api.Bundle {
	var b api.Bundle
	for b == (api.Bundle{}) {
		for k := range b {
			b[k] = max(0, source.IntN(2*units+1)-units)
		}
	}
	return b
}

// someExpr returns a random expression of at most the given depth whose nodes are valid; it can have too many.
func someExpr(source *rand.Rand, levels int) api.Expr {
	op := 1 + source.IntN(5)
	if levels == 1 {
		op = api.Atom
	}
	e := api.Expr{Op: op}
	if op == api.Atom || op == api.Bonus {
		e.Want = someBundle(source)
	}
	if op != api.Xor && op != api.Or {
		e.Value = 1 + source.Int64N(value)
	}
	n := 1
	switch op {
	case api.Atom:
		n = 0
	case api.Xor, api.Or:
		n = 1 + source.IntN(3)
	}
	for range n {
		e.Args = append(e.Args, someExpr(source, levels-1))
	}
	return e
}

// anyExpr returns a random expression of at most the given depth, without any rule for its nodes.
func anyExpr(source *rand.Rand, levels int) api.Expr {
	e := api.Expr{Op: source.IntN(8) - 1, Value: source.Int64N(5) - 2}
	for k := range e.Want {
		e.Want[k] = source.IntN(9) - 2
	}
	if levels > 1 {
		for range source.IntN(5) {
			e.Args = append(e.Args, anyExpr(source, levels-1))
		}
	}
	return e
}

// place returns the node at the end of a way down from e.
func place(e *api.Expr, way ...int) *api.Expr {
	for _, i := range way {
		e = &e.Args[i]
	}
	return e
}

// preorder returns pointers to the nodes of e in preorder.
func preorder(e *api.Expr) []*api.Expr {
	all := []*api.Expr{e}
	for i := range e.Args {
		all = append(all, preorder(&e.Args[i])...)
	}
	return all
}

// expectExpr expects an expression.
func expectExpr(t *testing.T, what string, got, want api.Expr) {
	t.Helper()
	if !same(got, want) {
		t.Errorf("%s is %v, want %v", what, got, want)
	}
	if !expr.Equal(got, want) {
		t.Errorf("%s is %v, which is not Equal to %v", what, got, want)
	}
}

// same compares two expressions by the words of P11.3.
func same(a, b api.Expr) bool {
	return a.Op == b.Op && a.Want == b.Want && a.Value == b.Value && slices.EqualFunc(a.Args, b.Args, same)
}
