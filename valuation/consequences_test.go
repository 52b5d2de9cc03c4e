package valuation_test

import (
	"slices"
	"testing"

	"saleroom/api"
	"saleroom/expr"
	"saleroom/valuation"
)

// P13.5, P13.6: tables are monotone, begin with 0, and have no element that is greater than Most.
func TestTablesAreMonotone(t *testing.T) {
	source := newSource()
	supplies := []api.Bundle{with(4), with(2, 3), with(2, 2, 2), with(1, 2, 0, 1, 0, 1), with(1, 1, 1, 1, 1, 1), with(2, 2, 2, 2, 2, 2)}
	for i := range 600 {
		supply := supplies[i%len(supplies)]
		e := validExpr(source, supply)
		table, err := valuation.Table(e, supply)
		if err != api.OK || !valuation.Monotone(table, supply) {
			t.Fatalf("Table(%v, %v) = %v, %v, which is not monotone", e, supply, table, err)
		}
		if most := valuation.Most(e); table[0] != 0 || slices.Max(table) > most || most > 1000000 {
			t.Fatalf("Table(%v, %v) = %v, and Most is %d", e, supply, table, most)
		}
	}
}

// P13.5, P13.6: pairs of bundles within each other, also of those that are no supplies
func TestFreeDisposal(t *testing.T) {
	source := newSource()
	for range 2000 {
		e := validExpr(source, with(2, 2, 1, 1, 1, 1))
		great := someBundle(source, with(3, 3, 3, 3, 3, 3))
		small := someBundle(source, great)
		least, more, all := valuation.Value(e, small), valuation.Value(e, great), valuation.Most(e)
		if least > more || more > all {
			t.Fatalf("under %v, %v is worth %d, %v is worth %d, and Most is %d", e, small, least, great, more, all)
		}
		expectValue(t, e, with(), 0)
	}
}

// R3: no function changes its arguments, nor the spare capacity of their lists.
func TestArgumentsStay(t *testing.T) {
	source := newSource()
	for range 300 {
		e := spare(validExpr(source, with(2, 1, 1)))
		whole := expr.Copy(withSpare(e))
		valuation.Value(e, with(2, 2, 2))
		valuation.Most(e)
		table, _ := valuation.Table(e, with(2, 1, 1))
		kept := slices.Clone(table)
		valuation.Monotone(table, with(2, 1, 1))
		if !slices.Equal(table, kept) {
			t.Fatalf("Monotone changes its argument to %v", table)
		}
		if !expr.Equal(withSpare(e), whole) {
			t.Fatalf("the expression becomes %v", e)
		}
	}
}

// spare returns a copy of e whose lists of arguments have another element in their spare capacity.
func spare(e api.Expr) api.Expr {
	list := make([]api.Expr, 0, len(e.Args)+1)
	for _, arg := range e.Args {
		list = append(list, spare(arg))
	}
	e.Args = append(list, api.Expr{Op: 77, Value: 78})[:len(list)]
	return e
}

// withSpare returns e with the elements in the spare capacity of its lists.
func withSpare(e api.Expr) api.Expr {
	all := slices.Clone(e.Args[:cap(e.Args)])
	for i := range e.Args {
		all[i] = withSpare(all[i])
	}
	e.Args = all
	return e
}
