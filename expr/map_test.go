package expr_test

import (
	"slices"
	"testing"

	"saleroom/api"
	"saleroom/expr"
)

// identity returns its argument.
func identity(e api.Expr) api.Expr {
	return e
}

// doubled doubles the value of an Atom.
func doubled(e api.Expr) api.Expr {
	if e.Op == api.Atom {
		e.Value *= 2
	}
	return e
}

// P11.5: valid expressions and others
func TestCopy(t *testing.T) {
	for _, e := range []api.Expr{{}, atom(5, 1), example(), mixed(), largest(), chain(100), xor(), {Op: -1, Args: []api.Expr{{}}}} {
		expectExpr(t, "Copy", expr.Copy(e), e)
	}
	source := newSource()
	for range 3000 {
		e := anyExpr(source, 4)
		expectExpr(t, "Copy", expr.Copy(e), e)
	}
}

// disturb changes every node of e, and the spare capacity of its lists.
func disturb(e *api.Expr) {
	for i := range e.Args {
		disturb(&e.Args[i])
	}
	for i := range e.Args[:cap(e.Args)] {
		e.Args[:cap(e.Args)][i] = api.Expr{Op: 99}
	}
	*e = api.Expr{Op: 98}
}

// spare returns a copy of e in which every list of arguments, also an empty one, has spare capacity.
func spare(e api.Expr) api.Expr {
	all := []api.Expr{}
	for _, arg := range e.Args {
		all = append(all, spare(arg))
	}
	e.Args = append(all, api.Expr{Op: 97}, api.Expr{Op: 96}, api.Expr{Op: 95})[:len(all)]
	return e
}

// withSpare returns e with the spare capacity of its lists as further arguments.
func withSpare(e api.Expr) api.Expr {
	e.Args = slices.Clone(e.Args[:cap(e.Args)])
	for i, arg := range e.Args {
		e.Args[i] = withSpare(arg)
	}
	return e
}

// P11.5, R3: a copy shares no memory with the expression, nor do its lists with each other.
func TestCopySharesNothing(t *testing.T) {
	e := spare(mixed())
	whole := withSpare(e)
	first, second := expr.Copy(e), expr.Copy(e)
	disturb(&first)
	expectExpr(t, "a copy", second, mixed())
	expectExpr(t, "the expression", withSpare(e), whole)
	disturb(&e)
	expectExpr(t, "a copy", second, mixed())
	shared := slices.Repeat([]api.Expr{atom(5, 1)}, 2)
	e = expr.Copy(or(or(shared...), or(shared...)))
	disturb(&e.Args[0])
	expectExpr(t, "the other argument", e.Args[1], or(atom(5, 1), atom(5, 1)))
}

// R3: the copies of Atoms share no memory with the expression, nor with each other.
func TestAtomsShareNothing(t *testing.T) {
	inner := atom(3, 1)
	inner.Args = []api.Expr{atom(2, 2)}
	outer := atom(1, 1)
	outer.Args = []api.Expr{inner}
	e := spare(or(outer, inner))
	whole := withSpare(e)
	atoms := expr.Atoms(e)
	disturb(&atoms[0])
	disturb(&atoms[2])
	expectExpr(t, "the expression", withSpare(e), whole)
	for i, want := range map[int]api.Expr{1: inner, 3: inner, 4: atom(2, 2)} {
		expectExpr(t, "an Atom", atoms[i], want)
	}
	atoms = expr.Atoms(e)
	disturb(&e)
	expectExpr(t, "an Atom", atoms[0], outer)
	expectExpr(t, "an Atom", atoms[3], inner)
}

// P11.5: the example of the chapter, and functions that change nodes in other ways
func TestMap(t *testing.T) {
	expectExpr(t, "Map", expr.Map(or(atom(5, 1), atom(3, 0, 1)), doubled), or(atom(10, 1), atom(6, 0, 1)))
	expectExpr(t, "Map", expr.Map(example(), doubled), limit(or(atom(10, 1), atom(14, 0, 1)), 10))
	expectExpr(t, "Map", expr.Map(atom(5, 1), doubled), atom(10, 1))
	constant := func(api.Expr) api.Expr { return atom(1, 1) }
	expectExpr(t, "Map", expr.Map(mixed(), constant), atom(1, 1))
	zero := func(api.Expr) api.Expr { return api.Expr{} }
	expectExpr(t, "Map", expr.Map(mixed(), zero), api.Expr{})
	wrapped := func(e api.Expr) api.Expr { return xor(e) }
	expectExpr(t, "Map", expr.Map(limit(atom(5, 1), 3), wrapped), xor(limit(xor(atom(5, 1)), 3)))
	reversed := func(e api.Expr) api.Expr {
		slices.Reverse(e.Args)
		return e
	}
	expectExpr(t, "Map", expr.Map(or(atom(5, 1), xor(atom(3, 0, 1), atom(4, 1))), reversed), or(xor(atom(4, 1), atom(3, 0, 1)), atom(5, 1)))
	first := func(e api.Expr) api.Expr {
		if len(e.Args) > 0 {
			return e.Args[0]
		}
		return e
	}
	expectExpr(t, "Map", expr.Map(mixed(), first), atom(5, 1))
}

// P11.5: without a function Map copies.
func TestMapWithoutFunction(t *testing.T) {
	e := mixed()
	for _, f := range []func(api.Expr) api.Expr{nil, identity} {
		got := expr.Map(e, f)
		expectExpr(t, "Map", got, mixed())
		disturb(&got)
		expectExpr(t, "the expression", e, mixed())
		got = expr.Map(e, f)
		disturb(&e)
		expectExpr(t, "Map", got, mixed())
		e = mixed()
	}
	expectExpr(t, "Map", expr.Map(api.Expr{Op: -1, Args: []api.Expr{{}}}, nil), api.Expr{Op: -1, Args: []api.Expr{{}}})
}

// P11.5: the function gets each node once, after its arguments, which are its results for them.
func TestMapOrder(t *testing.T) {
	var got []api.Expr
	expr.Map(mixed(), func(e api.Expr) api.Expr {
		got = append(got, expr.Copy(e))
		e.Value += 100
		return e
	})
	changed := mixed()
	var want []api.Expr
	for _, node := range postorder(&changed) {
		want = append(want, expr.Copy(*node))
		node.Value += 100
	}
	if !slices.EqualFunc(got, want, same) {
		t.Errorf("Map calls its function with %v, want %v", got, want)
	}
}

// postorder returns pointers to the nodes of e, arguments first.
func postorder(e *api.Expr) []*api.Expr {
	var all []*api.Expr
	for i := range e.Args {
		all = append(all, postorder(&e.Args[i])...)
	}
	return append(all, e)
}

// mapByDefinition follows the words of P11.5.
func mapByDefinition(e api.Expr, f func(api.Expr) api.Expr) api.Expr {
	var results []api.Expr
	for _, arg := range e.Args {
		results = append(results, mapByDefinition(arg, f))
	}
	e.Args = results
	return f(e)
}

// P11.5: random expressions, and a function that counts its calls and depends on the arguments
func TestMapOfManyExpressions(t *testing.T) {
	source := newSource()
	counter := func() func(api.Expr) api.Expr {
		calls := 0
		return func(e api.Expr) api.Expr {
			calls++
			e.Value += int64(1000 * calls)
			e.Want[calls%6]++
			switch {
			case calls%7 == 0 && len(e.Args) > 0:
				e.Args = append(e.Args[1:], atom(int64(calls)))
			case calls%11 == 0:
				e = limit(e, int64(len(e.Args)))
			}
			return e
		}
	}
	for range 5000 {
		e := anyExpr(source, 4)
		expectExpr(t, "Map", expr.Map(e, counter()), mapByDefinition(e, counter()))
	}
}

// R3: whatever the function does with the nodes that it gets and returns, the argument stays.
func TestMapLeavesTheArgument(t *testing.T) {
	e := spare(mixed())
	whole := withSpare(e)
	expr.Map(e, func(node api.Expr) api.Expr {
		grown := append(node.Args, atom(1, 1))
		disturb(&node)
		return or(grown...)
	})
	expectExpr(t, "the expression", withSpare(e), whole)
}

// R3: a list that the function makes by append is its own, also if it makes several of the same arguments.
func TestMapWithAppend(t *testing.T) {
	paired := func(node api.Expr) api.Expr {
		if node.Op == api.Atom {
			return node
		}
		one, other := append(node.Args, atom(1, 1)), append(node.Args, atom(2, 2))
		return xor(or(one...), or(other...))
	}
	for n := 1; n <= 40; n++ {
		arguments := slices.Repeat([]api.Expr{atom(5, 1)}, n)
		one, other := slices.Concat(arguments, []api.Expr{atom(1, 1)}), slices.Concat(arguments, []api.Expr{atom(2, 2)})
		expectExpr(t, "Map", expr.Map(or(arguments...), paired), xor(or(one...), or(other...)))
	}
}

// R3: the result is new memory, also if the function keeps or repeats what it returns.
func TestMapSharesNothing(t *testing.T) {
	replacement := or(atom(5, 1), atom(7, 0, 1))
	replaced := func(node api.Expr) api.Expr {
		if node.Op == api.Atom {
			return replacement
		}
		return node
	}
	got := expr.Map(xor(atom(1, 1), atom(2, 2)), replaced)
	disturb(&got.Args[0])
	expectExpr(t, "the other argument", got.Args[1], or(atom(5, 1), atom(7, 0, 1)))
	expectExpr(t, "the replacement", replacement, or(atom(5, 1), atom(7, 0, 1)))
	var kept []api.Expr
	got = expr.Map(mixed(), func(node api.Expr) api.Expr {
		kept = append(kept, node)
		return node
	})
	for i := range kept {
		disturb(&kept[i])
	}
	expectExpr(t, "Map", got, mixed())
}

// R1: Map does not panic, also if the function does.
func TestMapOfPanic(t *testing.T) {
	for n := range 12 {
		calls := 0
		got := expr.Map(mixed(), func(node api.Expr) api.Expr {
			if calls++; calls > n {
				panic("no result")
			}
			return node
		})
		expectExpr(t, "Map", got, api.Expr{})
		if calls != n+1 {
			t.Errorf("the function is called %d times", calls)
		}
	}
}
