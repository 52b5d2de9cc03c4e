package expr_test

import (
	"math"
	"slices"
	"testing"

	"saleroom/api"
	"saleroom/expr"
)

// expectCheck expects the error from Check(e).
func expectCheck(t *testing.T, e api.Expr, want api.Errno) {
	t.Helper()
	if got := expr.Check(e); got != want {
		t.Errorf("Check(%v) = %v, want %v", e, got, want)
	}
}

// P11.1: valid expressions, those at the limits among them
func TestCheck(t *testing.T) {
	expectCheck(t, example(), api.OK)
	expectCheck(t, mixed(), api.OK)
	expectCheck(t, largest(), api.OK)
	expectCheck(t, atom(1, 1), api.OK)
	expectCheck(t, atom(value, 4, 4, 4, 4, 4, 4), api.OK)
	expectCheck(t, atom(5, 0, 0, 0, 0, 0, 1), api.OK)
	expectCheck(t, xor(atom(1, 1)), api.OK)
	expectCheck(t, or(atom(1, 1)), api.OK)
	expectCheck(t, or(atom(1, 1), atom(1, 1)), api.OK)
	expectCheck(t, bonus(atom(1, 1), 1, 4, 4, 4, 4, 4, 4), api.OK)
	expectCheck(t, bonus(atom(1, 1), value, 0, 0, 0, 0, 0, 1), api.OK)
	expectCheck(t, limit(atom(1, 1), 1), api.OK)
	expectCheck(t, limit(atom(1, 1), value), api.OK)
	e := atom(1, 1)
	e.Args = []api.Expr{}
	expectCheck(t, e, api.OK)
}

// P11.1: the examples of the chapter
func TestCheckExamples(t *testing.T) {
	expectCheck(t, atom(5), api.ErrRange)
	expectCheck(t, xor(), api.ErrFormat)
}

// P11.1: operations that do not exist
func TestCheckOperations(t *testing.T) {
	expectCheck(t, api.Expr{}, api.ErrFormat)
	for _, op := range append([]int{-1, 0, 6, 7, 8, 256 + api.Atom}, wild...) {
		for _, arguments := range [][]api.Expr{nil, {atom(1, 1)}, {atom(1, 1), atom(1, 1)}} {
			expectCheck(t, api.Expr{Op: op, Args: arguments}, api.ErrFormat)
			expectCheck(t, api.Expr{Op: op, Args: arguments, Want: with(1), Value: 1}, api.ErrFormat)
			expectCheck(t, api.Expr{Op: op, Args: arguments, Want: with(-1), Value: -1}, api.ErrFormat)
		}
	}
}

// P11.1: numbers of arguments
func TestCheckArguments(t *testing.T) {
	for n := range 2 * args {
		arguments := slices.Repeat([]api.Expr{atom(1, 1)}, n)
		wants := map[int]api.Errno{api.Atom: api.ErrFormat, api.Xor: api.OK, api.Or: api.OK, api.Bonus: api.ErrFormat, api.Limit: api.ErrFormat}
		switch {
		case n == 0:
			wants[api.Atom], wants[api.Xor], wants[api.Or] = api.OK, api.ErrFormat, api.ErrFormat
		case n == 1:
			wants[api.Bonus], wants[api.Limit] = api.OK, api.OK
		case n > args:
			for op := range wants {
				wants[op] = api.ErrLong
			}
		}
		for op, want := range wants {
			e := api.Expr{Op: op, Args: arguments}
			if op == api.Atom || op == api.Bonus {
				e.Want = with(1)
			}
			if op != api.Xor && op != api.Or {
				e.Value = 1
			}
			expectCheck(t, e, want)
			expectCheck(t, xor(atom(1, 1), e), want)
		}
	}
}

// P11.1: bundles of the nodes that use them, and of those that do not
func TestCheckWants(t *testing.T) {
	for k := range api.MaxProducts {
		for quantity := range units + 1 {
			want := api.OK
			if quantity == 0 {
				want = api.ErrRange
			}
			expectWant(t, k, quantity, want)
		}
		for _, quantity := range append([]int{-1, 5, 6, 24, 256}, wild...) {
			expectWant(t, k, quantity, api.ErrRange)
			e := bonus(atom(1, 1), 1, 1, 1, 1, 1, 1, 1)
			e.Want[k] = quantity
			expectCheck(t, e, api.ErrRange)
		}
	}
	expectCheck(t, atom(1, 1, -1), api.ErrRange)
	expectCheck(t, atom(1, -1, 1), api.ErrRange)
	expectCheck(t, atom(1, math.MaxInt, math.MinInt, 2), api.ErrRange)
}

// expectWant expects the error for a quantity of a product in an Atom and a Bonus, and ErrFormat for one in other nodes.
func expectWant(t *testing.T, k, quantity int, want api.Errno) {
	t.Helper()
	for _, e := range []api.Expr{atom(1), bonus(atom(1, 1), 1)} {
		e.Want[k] = quantity
		expectCheck(t, e, want)
		expectCheck(t, or(atom(1, 1), e), want)
	}
	want = api.ErrFormat
	if quantity == 0 {
		want = api.OK
	}
	for _, e := range []api.Expr{xor(atom(1, 1)), or(atom(1, 1)), limit(atom(1, 1), 1)} {
		e.Want[k] = quantity
		expectCheck(t, e, want)
		expectCheck(t, or(atom(1, 1), e), want)
	}
}

// P11.1: values of the nodes that use them, and of those that do not
func TestCheckValues(t *testing.T) {
	values := map[int64]api.Errno{0: api.ErrRange, 1: api.OK, 2: api.OK, value - 1: api.OK, value: api.OK, value + 1: api.ErrRange, -1: api.ErrRange, -value: api.ErrRange, math.MaxInt64: api.ErrRange}
	for _, n := range wild {
		values[int64(n)] = api.ErrRange
	}
	for n, want := range values {
		for _, e := range []api.Expr{atom(n, 1), bonus(atom(1, 1), n, 1), limit(atom(1, 1), n)} {
			expectCheck(t, e, want)
			expectCheck(t, or(atom(1, 1), e), want)
		}
		want = api.ErrFormat
		if n == 0 {
			want = api.OK
		}
		for _, e := range []api.Expr{xor(atom(1, 1)), or(atom(1, 1))} {
			e.Value = n
			expectCheck(t, e, want)
			expectCheck(t, or(atom(1, 1), e), want)
		}
	}
}

// P11.1: within a node, the form comes before the range.
func TestCheckFormBeforeRange(t *testing.T) {
	e := atom(0)
	e.Args = []api.Expr{atom(1, 1)}
	expectCheck(t, e, api.ErrFormat)
	e = bonus(atom(1, 1), 0)
	e.Args = nil
	expectCheck(t, e, api.ErrFormat)
	e.Args = []api.Expr{atom(1, 1), atom(1, 1)}
	expectCheck(t, e, api.ErrFormat)
	e = limit(atom(1, 1), 0)
	e.Want = with(1)
	expectCheck(t, e, api.ErrFormat)
	e.Want = with(-1)
	expectCheck(t, e, api.ErrFormat)
	e = limit(atom(1, 1), -1)
	e.Args = nil
	expectCheck(t, e, api.ErrFormat)
}

// P11.1: a node comes before its arguments, and an argument with all its nodes before the next one.
func TestCheckInPreorder(t *testing.T) {
	expectCheck(t, or(atom(0, 1), xor()), api.ErrRange)
	expectCheck(t, or(xor(), atom(0, 1)), api.ErrFormat)
	expectCheck(t, limit(xor(), 0), api.ErrRange)
	expectCheck(t, limit(xor(), 1), api.ErrFormat)
	expectCheck(t, bonus(xor(), 1), api.ErrRange)
	expectCheck(t, bonus(xor(), 1, 1), api.ErrFormat)
	expectCheck(t, or(limit(atom(0, 1), 1), xor()), api.ErrRange)
	expectCheck(t, or(limit(xor(), 1), atom(0, 1)), api.ErrFormat)
	e := or(atom(0, 1))
	e.Value = 1
	expectCheck(t, e, api.ErrFormat)
}

// P11.1: the depth
func TestCheckDepth(t *testing.T) {
	for levels := 1; levels <= depth; levels++ {
		expectCheck(t, chain(levels), api.OK)
	}
	for _, levels := range []int{depth + 1, depth + 2, 20, nodes, nodes + 1, 1000} {
		expectCheck(t, chain(levels), api.ErrDepth)
		expectCheck(t, or(atom(1, 1), chain(levels-1)), api.ErrDepth)
		expectCheck(t, or(chain(levels-1), atom(1, 1)), api.ErrDepth)
	}
	expectCheck(t, or(chain(3), chain(5), chain(4)), api.OK)
	expectCheck(t, or(chain(3), chain(6), chain(4)), api.ErrDepth)
}

// P11.1: the size, for expressions whose nodes have few arguments
func TestCheckSize(t *testing.T) {
	for n := nodes - 4; n <= nodes+4; n++ {
		want := api.OK
		if n > nodes {
			want = api.ErrLong
		}
		e := or()
		for left := n - 1; left > 0; left -= args {
			e.Args = append(e.Args, xor(slices.Repeat([]api.Expr{atom(1, 1)}, min(left, args)-1)...))
			if left == 1 {
				e.Args[len(e.Args)-1] = atom(1, 1)
			}
		}
		if size := expr.Size(e); size != n {
			t.Fatalf("Size of an expression with %d nodes is %d", n, size)
		}
		expectCheck(t, e, want)
	}
}

// P11.1: the depth comes before the size, and both come before the nodes.
func TestCheckOrder(t *testing.T) {
	tooMany := slices.Repeat([]api.Expr{atom(1, 1)}, args+1)
	tooDeep := chain(depth)
	expectCheck(t, or(append(tooMany, tooDeep)...), api.ErrDepth)
	expectCheck(t, or(tooDeep, or(tooMany...)), api.ErrDepth)
	expectCheck(t, or(or(tooMany...), tooDeep), api.ErrDepth)
	expectCheck(t, or(xor(), tooDeep), api.ErrDepth)
	expectCheck(t, or(tooDeep, xor()), api.ErrDepth)
	expectCheck(t, or(atom(0), or(tooMany...)), api.ErrLong)
	expectCheck(t, or(xor(), or(tooMany...)), api.ErrLong)
	e := atom(0)
	e.Args = tooMany
	expectCheck(t, e, api.ErrLong)
	expectCheck(t, or(xor(), e), api.ErrLong)
	expectCheck(t, or(e, xor()), api.ErrLong)
	e = or(slices.Repeat([]api.Expr{or(tooMany[:7]...)}, 5)...)
	expectCheck(t, e, api.ErrLong)
	e.Value = 1
	expectCheck(t, e, api.ErrLong)
}

// R1: an expression that is among its own arguments has no end.
func TestCheckEnds(t *testing.T) {
	arguments := make([]api.Expr, 3)
	arguments[0], arguments[1], arguments[2] = atom(1, 1), or(arguments...), atom(1, 1)
	expectCheckOf(t, or(arguments...), api.ErrDepth)
	for levels := range 3 * depth {
		e := atom(1, 1)
		for range levels {
			e = or(slices.Repeat([]api.Expr{e}, args)...)
		}
		want := api.ErrDepth
		switch {
		case levels < 2:
			want = api.OK
		case levels < depth:
			want = api.ErrLong
		}
		expectCheckOf(t, e, want)
	}
}

// expectCheckOf expects the error from Check(e) for an expression that is too large to be shown.
func expectCheckOf(t *testing.T, e api.Expr, want api.Errno) {
	t.Helper()
	if got := expr.Check(e); got != want {
		t.Errorf("Check of a large expression is %v, want %v", got, want)
	}
}

// checkByDefinition follows the words of P11.1.
func checkByDefinition(e api.Expr) api.Errno {
	all := preorder(&e)
	switch {
	case depthByDefinition(e) > depth:
		return api.ErrDepth
	case len(all) > nodes || slices.ContainsFunc(all, func(node *api.Expr) bool { return len(node.Args) > args }):
		return api.ErrLong
	}
	for _, node := range all {
		if !hasForm(*node) {
			return api.ErrFormat
		}
		if !isInRange(*node) {
			return api.ErrRange
		}
	}
	return api.OK
}

// hasForm reports whether a node has the right form.
func hasForm(node api.Expr) bool {
	n := len(node.Args)
	if node.Op < api.Atom || node.Op > api.Limit {
		return false
	}
	if node.Op == api.Atom && n > 0 || (node.Op == api.Bonus || node.Op == api.Limit) && n != 1 {
		return false
	}
	if (node.Op == api.Xor || node.Op == api.Or) && (n < 1 || n > args || node.Value != 0) {
		return false
	}
	return node.Op == api.Atom || node.Op == api.Bonus || node.Want == api.Bundle{}
}

// isInRange reports whether a node is in range.
func isInRange(node api.Expr) bool {
	if node.Op == api.Xor || node.Op == api.Or {
		return true
	}
	if node.Value < 1 || node.Value > value {
		return false
	}
	if node.Op == api.Limit {
		return true
	}
	for _, quantity := range node.Want {
		if quantity < 0 || quantity > units {
			return false
		}
	}
	return node.Want != api.Bundle{}
}

// depthByDefinition follows the words of P11.2.
func depthByDefinition(e api.Expr) int {
	if len(e.Args) == 0 {
		return 1
	}
	greatest := 0
	for _, arg := range e.Args {
		greatest = max(greatest, depthByDefinition(arg))
	}
	return 1 + greatest
}

// P11.1: random expressions, with up to three changes
func TestCheckOfManyExpressions(t *testing.T) {
	source := newSource()
	changes := []func(*api.Expr){
		func(node *api.Expr) { node.Op = source.IntN(8) - 1 },
		func(node *api.Expr) { node.Value = []int64{-1, 0, 1, value, value + 1}[source.IntN(5)] },
		func(node *api.Expr) { node.Want[source.IntN(6)] = source.IntN(8) - 2 },
		func(node *api.Expr) { node.Want = api.Bundle{} },
		func(node *api.Expr) { node.Args = nil },
		func(node *api.Expr) { node.Args = append(node.Args, atom(1, 1)) },
		func(node *api.Expr) { node.Args = slices.Repeat([]api.Expr{atom(1, 1)}, 7+source.IntN(3)) },
		func(node *api.Expr) { *node = xor(*node) },
		func(node *api.Expr) { *node = anyExpr(source, 2) },
	}
	seen := map[api.Errno]int{}
	for range 60000 {
		e := someExpr(source, 1+source.IntN(depth))
		for range source.IntN(4) {
			all := preorder(&e)
			changes[source.IntN(len(changes))](all[source.IntN(len(all))])
		}
		want := checkByDefinition(e)
		seen[want]++
		expectCheck(t, e, want)
	}
	for _, e := range []api.Errno{api.OK, api.ErrDepth, api.ErrLong, api.ErrFormat, api.ErrRange} {
		if seen[e] < 500 {
			t.Errorf("%v is the error of only %d expressions", e, seen[e])
		}
	}
}

// P11.1: every change of one node of mixed
func TestCheckOfEveryNode(t *testing.T) {
	whole := mixed()
	for i := range preorder(&whole) {
		for op := -1; op <= 6; op++ {
			e := mixed()
			preorder(&e)[i].Op = op
			expectCheck(t, e, checkByDefinition(e))
		}
		for n := range args + 2 {
			e := mixed()
			preorder(&e)[i].Args = slices.Repeat([]api.Expr{atom(2, 2)}, n)
			expectCheck(t, e, checkByDefinition(e))
		}
		for _, n := range []int64{-1, 0, 1, value, value + 1} {
			e := mixed()
			preorder(&e)[i].Value = n
			expectCheck(t, e, checkByDefinition(e))
		}
		for k := range api.MaxProducts {
			for quantity := -1; quantity <= units+1; quantity++ {
				e := mixed()
				preorder(&e)[i].Want[k] = quantity
				expectCheck(t, e, checkByDefinition(e))
			}
		}
	}
}
