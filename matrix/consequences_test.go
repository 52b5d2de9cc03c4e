package matrix_test

import (
	"testing"

	"saleroom/api"
	"saleroom/fraction"
	"saleroom/matrix"
)

// isFree reports for each column whether it is a linear combination of the columns before it, by the definition.
func isFree(m matrix.Matrix, cols int) []bool {
	free := make([]bool, cols)
	for k := range cols {
		var before matrix.Matrix
		var column []api.Frac
		for _, row := range m {
			before = append(before, row[:k])
			column = append(column, row[k])
		}
		_, e := solveByRats(before, column, k)
		free[k] = e == api.OK
	}
	return free
}

// P17.4, P17.7: the product of m and a solution is b, and its elements for the free columns are 0.
func TestSolutionsSolve(t *testing.T) {
	source := newSource()
	for range 500 {
		rows, cols := 1+source.IntN(6), 1+source.IntN(6)
		m := someMat(source, rows, cols)
		b := matrix.Times(m, someCol(source, cols))
		x, e := matrix.Solve(m, b)
		if e != api.OK {
			t.Fatalf("Solve(%s, %s): %v", showRows(m), show(b), e)
		}
		expectCol(t, "the product of the solution", matrix.Times(m, x), b)
		for k, free := range isFree(m, cols) {
			if free && fraction.Sign(x[k]) != 0 {
				t.Fatalf("Solve(%s, %s) = %s, where column %d is free", showRows(m), show(b), show(x), k)
			}
		}
	}
}

// P17.5, P17.7: the rank is the number of columns that are not free, also for the transposed matrix and after Pivot.
func TestRanks(t *testing.T) {
	source := newSource()
	for range 300 {
		rows, cols := 1+source.IntN(6), 1+source.IntN(6)
		m := someMat(source, rows, cols)
		want := 0
		for _, free := range isFree(m, cols) {
			if !free {
				want++
			}
		}
		got, other := matrix.Rank(m), matrix.Rank(matrix.Transposed(m))
		if got != want || other != want || got > rows {
			t.Fatalf("the rank of %s is %d, and %d transposed, want %d", showRows(m), got, other, want)
		}
		for row := range rows {
			for col := range cols {
				if after, e := matrix.Pivot(m, row, col); e == api.OK && matrix.Rank(after) != want {
					t.Fatalf("the rank of %s is %d, and that of %s is %d", showRows(m), want, showRows(after), matrix.Rank(after))
				}
			}
		}
	}
}

// P17.6, P17.7: Null has elements exactly if the rank is less than the number of columns. Of these the one for the first
// free column is 1, the others for free columns are 0, and the product is 0.
func TestNullsVanish(t *testing.T) {
	source := newSource()
	empty := 0
	for range 500 {
		rows, cols := 1+source.IntN(6), 1+source.IntN(6)
		m := someMat(source, rows, cols)
		x := matrix.Null(m)
		if (len(x) != 0) != (matrix.Rank(m) < cols) {
			t.Fatalf("Null of %s is %s, and the rank is %d", showRows(m), show(x), matrix.Rank(m))
		}
		if len(x) == 0 {
			empty++
			continue
		}
		expectCol(t, "the product with Null", matrix.Times(m, x), zeros(rows))
		want := frac("1")
		for k, free := range isFree(m, cols) {
			if !free {
				continue
			}
			if !equal(x[k], want) {
				t.Fatalf("Null of %s is %s, where column %d is free", showRows(m), show(x), k)
			}
			want = frac("0")
		}
	}
	if empty < 50 || empty > 450 {
		t.Errorf("%d times Null has no elements", empty)
	}
}

// P17.3: pivots in the pivot columns, row by row, give what Solve and Null determine.
func TestPivotsSolve(t *testing.T) {
	source := newSource()
	for range 100 {
		const n = 4
		m, x := someMat(source, n, n), someCol(source, n)
		if matrix.Rank(m) < n {
			continue
		}
		b := matrix.Times(m, x)
		var joined matrix.Matrix
		for i, row := range m {
			joined = append(joined, append(row[:n:n], b[i]))
		}
		order := make([]int, n)
		used := make([]bool, n)
		for col := range n {
			for row := range n {
				next, e := matrix.Pivot(joined, row, col)
				if !used[row] && e == api.OK {
					joined, used[row], order[col] = next, true, row
					break
				}
			}
		}
		var got []api.Frac
		for _, row := range order {
			got = append(got, joined[row][n])
		}
		expectCol(t, "the solution by pivots of "+showRows(m), got, x)
	}
}
