package valuation_test

import (
	"math"
	"slices"
	"testing"

	"saleroom/api"
	"saleroom/valuation"
)

// P13.2: the example of the chapter, and others
func TestTable(t *testing.T) {
	expectTable(t, read("{a:1}@5"), with(2), []int64{0, 5, 5})
	expectTable(t, read("{a:1}@5"), with(), []int64{0})
	expectTable(t, read("{a:1}@5"), with(0, 1), []int64{0, 0})
	expectTable(t, read("{a:3}@5"), with(2), []int64{0, 0, 0})
	expectTable(t, read("{f:4}@5"), with(0, 0, 0, 0, 0, 4), []int64{0, 0, 0, 0, 5})
	expectTable(t, read("or({a:1}@5,{b:1}@7)"), with(1, 1), []int64{0, 7, 5, 12})
	expectTable(t, read("xor({a:1}@5,{b:1}@7)"), with(1, 1), []int64{0, 7, 5, 7})
	expectTable(t, read("or({a:1}@5,{a:1}@7)"), with(2, 0, 1), []int64{0, 0, 7, 7, 12, 12})
	expectTable(t, read("bonus(or({a:1}@5,{b:1}@7),{a:1,b:1}@3)"), with(1, 2), []int64{0, 7, 7, 5, 15, 15})
	expectTable(t, read("limit(or({a:1}@5,{b:1}@7),10)"), with(2, 1), []int64{0, 7, 5, 10, 5, 10})
	expectTable(t, read("or({a:1}@600000,{a:1}@600000)"), with(2), []int64{0, 600000, most})
}

// P13.2: the errors of the expression, before all errors of the supply
func TestTableOfInvalidExpressions(t *testing.T) {
	for _, bad := range badExprs() {
		for _, supply := range append(slices.Concat(badBundles(), noSupplies), with(), with(2), with(1, 1)) {
			expectNoTable(t, bad.e, supply, bad.err)
		}
	}
}

// P13.2: supplies that are not valid, also those with too many units of several products, and valid bundles that are no supplies
func TestTableWithoutSupply(t *testing.T) {
	for _, text := range []string{"{a:1}@5", "{f:1}@5", "or({a:1}@5,{b:1}@7)"} {
		for _, supply := range badBundles() {
			expectNoTable(t, read(text), supply, api.ErrRange)
		}
		expectNoTable(t, read(text), with(5, 4, 4, 4, 4, 4), api.ErrRange)
		for _, supply := range noSupplies {
			expectNoTable(t, read(text), supply, api.ErrLong)
		}
	}
}

// P13.2: random expressions, by the definition, for supplies with few and with up to 1024 bundles. What the expressions
// want need not be within the supply.
func TestTableByDefinition(t *testing.T) {
	source := newSource()
	for _, supply := range []api.Bundle{with(), with(4), with(0, 3), with(2, 2), with(1, 1, 1), with(1, 0, 2, 0, 0, 1), with(1, 1, 1, 1, 1)} {
		for range 150 {
			last := supply
			for k := range 2 {
				last[k] = min(last[k]+1, units)
			}
			e := validExpr(source, last)
			expectTable(t, e, supply, tableByDefinition(e, supply))
		}
	}
	for _, supply := range []api.Bundle{with(4, 4, 4), with(2, 1, 2, 1, 2), with(1, 1, 1, 1, 1, 1)} {
		for range 10 {
			e := validExpr(source, supply)
			expectTable(t, e, supply, tableByDefinition(e, supply))
		}
	}
}

// P13.2: the elements are the Values, for supplies with as many bundles as possible.
func TestTableOfLargeSupplies(t *testing.T) {
	source := newSource()
	for _, supply := range []api.Bundle{with(3, 3, 3, 3, 3), with(0, 3, 3, 3, 3, 3), with(3, 3, 3, 3, 1, 1), with(4, 4, 4, 3, 1), with(2, 2, 2, 2, 2, 2)} {
		for range 6 {
			e := validExpr(source, supply)
			table, err := valuation.Table(e, supply)
			var want []int64
			eachUpTo(supply, func(b api.Bundle) { want = append(want, valuation.Value(e, b)) })
			if err != api.OK || !slices.Equal(table, want) || len(table) > packages {
				t.Errorf("Table(%v, %v) differs from the values, or is the error %v", e, supply, err)
			}
		}
	}
}

// R3: the results are new memory.
func TestTableMemory(t *testing.T) {
	e := read("or({a:1}@5,{b:1}@7)")
	first, _ := valuation.Table(e, with(1, 1))
	for i := range first[:cap(first)] {
		first[:cap(first)][i] = -1
	}
	expectTable(t, e, with(1, 1), []int64{0, 7, 5, 12})
}

// expectMonotone expects the result of Monotone(table, supply).
func expectMonotone(t *testing.T, table []int64, supply api.Bundle, want bool) {
	t.Helper()
	if got := valuation.Monotone(table, supply); got != want {
		t.Errorf("Monotone(%v, %v) = %v", table, supply, got)
	}
}

// P13.3: the example of the chapter, and others
func TestMonotone(t *testing.T) {
	expectMonotone(t, []int64{0, 5, 4}, with(2), false)
	expectMonotone(t, []int64{0, 5, 5}, with(2), true)
	expectMonotone(t, []int64{1, 0, 1}, with(2), false)
	expectMonotone(t, []int64{0, 0, 0}, with(2), true)
	expectMonotone(t, []int64{0}, with(), true)
	expectMonotone(t, []int64{-7}, with(), true)
	expectMonotone(t, []int64{0, 7, 5, 12}, with(1, 1), true)
	expectMonotone(t, []int64{0, 7, 5, 7}, with(1, 1), true)
	expectMonotone(t, []int64{0, 7, 5, 6}, with(1, 1), false)
	expectMonotone(t, []int64{0, 5, 7, 6}, with(1, 1), false)
	expectMonotone(t, []int64{0, -1, 5, 6}, with(1, 1), false)
	expectMonotone(t, []int64{0, 5, -1, 6}, with(1, 1), false)
	expectMonotone(t, []int64{-3, -2, -3, -2}, with(1, 1), true)
	expectMonotone(t, []int64{math.MinInt64, -1, 0, math.MaxInt64}, with(1, 1), true)
	expectMonotone(t, []int64{0, math.MaxInt64, math.MinInt64, math.MaxInt64}, with(1, 1), false)
	expectMonotone(t, []int64{math.MaxInt64, math.MinInt64}, with(1), false)
	expectMonotone(t, []int64{math.MinInt64, math.MaxInt64}, with(0, 0, 0, 0, 0, 1), true)
}

// P13.3: tables with too few or too many elements
func TestMonotoneOfOtherLengths(t *testing.T) {
	for _, supply := range []api.Bundle{with(), with(2), with(0, 1), with(2, 2), with(3, 3, 3, 3, 3)} {
		count := 0
		eachUpTo(supply, func(api.Bundle) { count++ })
		for _, n := range []int{0, 1, count - 1, count, count + 1, 2 * count} {
			expectMonotone(t, make([]int64, n), supply, n == count)
		}
	}
	expectMonotone(t, nil, with(), false)
}

// P13.3: bundles that are no supplies
func TestMonotoneWithoutSupply(t *testing.T) {
	for _, supply := range append(badBundles(), with(4, 3, 2, 2, 2, 1), with(4, 4, 4, 2, 2), full()) {
		for _, n := range []int{0, 1, 2, 1024, 1080, 1125, 15625} {
			expectMonotone(t, make([]int64, n), supply, false)
		}
	}
}

// P13.3: random tables, by the definition
func TestMonotoneByDefinition(t *testing.T) {
	source := newSource()
	counts := map[bool]int{}
	for _, supply := range []api.Bundle{with(1), with(3), with(1, 1), with(0, 0, 1, 0, 0, 1), with(2, 1), with(1, 1, 1)} {
		for range 2000 {
			var table []int64
			eachUpTo(supply, func(b api.Bundle) {
				total := 0
				for _, quantity := range b {
					total += quantity
				}
				table = append(table, int64(total)+source.Int64N(3))
			})
			want := isMonotone(table, supply)
			counts[want]++
			expectMonotone(t, table, supply, want)
		}
	}
	if counts[true] < 1000 || counts[false] < 1000 {
		t.Errorf("%d tables are monotone, and %d are not", counts[true], counts[false])
	}
}

// P13.3: every single element that is too great or too small, in a table of which each bundle has more than smaller ones
func TestMonotoneOfEveryElement(t *testing.T) {
	for _, supply := range []api.Bundle{with(2, 1, 2), with(1, 1, 1, 1, 1, 1), with(4, 0, 0, 0, 0, 4)} {
		var table []int64
		eachUpTo(supply, func(b api.Bundle) {
			table = append(table, int64(10*(b[0]+b[1]+b[2]+b[3]+b[4]+b[5])))
		})
		expectMonotone(t, table, supply, true)
		for i := range table {
			for _, change := range []int64{-11, -10, -9, 9, 10, 11} {
				changed := slices.Clone(table)
				changed[i] += change
				expectMonotone(t, changed, supply, isMonotone(changed, supply))
			}
		}
	}
}
