package matrix_test

import (
	"math/big"
	"math/rand/v2"
	"slices"
	"strings"
	"testing"

	"saleroom/api"
	"saleroom/fraction"
	"saleroom/matrix"
)

// frac returns the fraction of a text.
func frac(text string) api.Frac {
	f, e := fraction.Parse(text)
	if e != api.OK {
		panic(text)
	}
	return f
}

// col returns the column with the elements of a text, which are separated by spaces.
func col(text string) []api.Frac {
	var l []api.Frac
	for _, word := range strings.Fields(text) {
		l = append(l, frac(word))
	}
	return l
}

// mat returns the matrix whose rows are the elements of the texts.
func mat(rows ...string) matrix.Matrix {
	var m matrix.Matrix
	for _, row := range rows {
		m = append(m, col(row))
	}
	return m
}

// irregular returns matrices that are not regular in form.
func irregular() []matrix.Matrix {
	return []matrix.Matrix{
		mat("1", ""), mat("", "1"), mat("1", "1 2"), mat("1 2", "1"), mat("1 2", "3 4", "5"), mat("1 2", "3", "5 6"),
		mat("1 2", "3 4", "5 6 7"), mat("1 2", ""), mat("0 0", "0"), mat("", "", "0"),
	}
}

// equal compares field by field, so that a fraction that is not in lowest terms differs from one that is.
func equal(a, b api.Frac) bool {
	return a.Neg == b.Neg && slices.Equal(a.Num, b.Num) && slices.Equal(a.Den, b.Den)
}

// same compares two columns.
func same(a, b []api.Frac) bool {
	return slices.EqualFunc(a, b, equal)
}

// sameRows compares two matrices.
func sameRows(a, b matrix.Matrix) bool {
	return slices.EqualFunc(a, b, same)
}

// show returns the text of a column.
func show(x []api.Frac) string {
	var words []string
	for _, f := range x {
		words = append(words, fraction.Format(f))
	}
	return "[" + strings.Join(words, " ") + "]"
}

// showRows returns the text of a matrix.
func showRows(m matrix.Matrix) string {
	var texts []string
	for _, row := range m {
		texts = append(texts, show(row))
	}
	return "{" + strings.Join(texts, " ") + "}"
}

// expectCol expects a column.
func expectCol(t *testing.T, what string, got, want []api.Frac) {
	t.Helper()
	if !same(got, want) {
		t.Fatalf("%s is %s, want %s", what, show(got), show(want))
	}
}

// expectMat expects a matrix.
func expectMat(t *testing.T, what string, got, want matrix.Matrix) {
	t.Helper()
	if !sameRows(got, want) {
		t.Fatalf("%s is %s, want %s", what, showRows(got), showRows(want))
	}
}

// expectSolve expects the result of Solve; no elements belong to an error.
func expectSolve(t *testing.T, m matrix.Matrix, b, want []api.Frac, wanted api.Errno) {
	t.Helper()
	got, e := matrix.Solve(m, b)
	if e != wanted || !same(got, want) {
		t.Fatalf("Solve(%s, %s) = %s, %v, want %s, %v", showRows(m), show(b), show(got), e, show(want), wanted)
	}
}

// expectPivot expects the result of Pivot; no rows belong to an error.
func expectPivot(t *testing.T, m matrix.Matrix, row, col int, want matrix.Matrix, wanted api.Errno) {
	t.Helper()
	got, e := matrix.Pivot(m, row, col)
	if e != wanted || !sameRows(got, want) {
		t.Fatalf("Pivot(%s, %d, %d) = %s, %v, want %s, %v", showRows(m), row, col, showRows(got), e, showRows(want), wanted)
	}
}

// newSource returns a source of the same numbers in every run.
func newSource() *rand.Rand {
	return rand.New(rand.NewPCG(33, 34))
}

// someFrac returns a fraction with parts up to the limits; one in three is zero, so that there are free columns.
func someFrac(source *rand.Rand, num, den int64) api.Frac {
	if source.IntN(3) == 0 {
		return fraction.FromInt(0)
	}
	f, e := fraction.New(source.Int64N(2*num+1)-num, 1+source.Int64N(den))
	if e != api.OK {
		panic(e)
	}
	return f
}

// someCol returns a column of n small fractions.
func someCol(source *rand.Rand, n int) []api.Frac {
	var x []api.Frac
	for range n {
		x = append(x, someFrac(source, 3, 3))
	}
	return x
}

// someMat returns a matrix of small fractions, in some of which rows and columns depend on others.
func someMat(source *rand.Rand, rows, cols int) matrix.Matrix {
	var m matrix.Matrix
	for range rows {
		m = append(m, someCol(source, cols))
	}
	for range source.IntN(3) {
		if rows == 0 || cols == 0 {
			return m
		}
		factor := someFrac(source, 3, 2)
		from, to := source.IntN(rows), source.IntN(rows)
		left, right := source.IntN(cols), source.IntN(cols)
		for k := range cols {
			m[to][k] = fraction.Mul(factor, m[from][k])
		}
		for i := range rows {
			m[i][right] = fraction.Mul(factor, m[i][left])
		}
	}
	return m
}

// The reference: the Gauss-Jordan elimination by another implementation of fractions.

func toRat(f api.Frac) *big.Rat {
	r, is := new(big.Rat).SetString(fraction.Format(f))
	if !is {
		panic(fraction.Format(f))
	}
	return r
}

func fromRat(r *big.Rat) api.Frac {
	return frac(r.RatString())
}

// toRats returns the rows in the form of the other implementation.
func toRats(m matrix.Matrix) [][]*big.Rat {
	var rows [][]*big.Rat
	for _, row := range m {
		var l []*big.Rat
		for _, f := range row {
			l = append(l, toRat(f))
		}
		rows = append(rows, l)
	}
	return rows
}

// fromRats returns the matrix of the rows.
func fromRats(rows [][]*big.Rat) matrix.Matrix {
	var m matrix.Matrix
	for _, row := range rows {
		var l []api.Frac
		for _, r := range row {
			l = append(l, fromRat(r))
		}
		m = append(m, l)
	}
	return m
}

// pivotRats divides a row and subtracts it from all others.
func pivotRats(rows [][]*big.Rat, row, col int) {
	inverse := new(big.Rat).Inv(rows[row][col])
	for _, r := range rows[row] {
		r.Mul(r, inverse)
	}
	for i := range rows {
		if i == row {
			continue
		}
		factor := new(big.Rat).Set(rows[i][col])
		for k, r := range rows[i] {
			r.Sub(r, new(big.Rat).Mul(factor, rows[row][k]))
		}
	}
}

// reduceRats brings the rows into the reduced echelon form and returns the pivot columns.
func reduceRats(rows [][]*big.Rat, cols int) []int {
	var pivots []int
	for col := range cols {
		for i := len(pivots); i < len(rows); i++ {
			if rows[i][col].Sign() != 0 {
				rows[i], rows[len(pivots)] = rows[len(pivots)], rows[i]
				pivotRats(rows, len(pivots), col)
				pivots = append(pivots, col)
				break
			}
		}
	}
	return pivots
}

// zeros returns a column of n zeros.
func zeros(n int) []api.Frac {
	var x []api.Frac
	for range n {
		x = append(x, frac("0"))
	}
	return x
}

// solveByRats returns what Solve has to return for a matrix with so many columns.
func solveByRats(m matrix.Matrix, b []api.Frac, cols int) ([]api.Frac, api.Errno) {
	var joined matrix.Matrix
	for i, row := range m {
		joined = append(joined, slices.Concat(row, b[i:i+1]))
	}
	rows := toRats(joined)
	x := zeros(cols)
	for i, col := range reduceRats(rows, cols+1) {
		if col == cols {
			return nil, api.ErrNone
		}
		x[col] = fromRat(rows[i][cols])
	}
	return x, api.OK
}

// nullByRats returns what Null has to return for a matrix with so many columns.
func nullByRats(m matrix.Matrix, cols int) []api.Frac {
	rows := toRats(m)
	pivots := reduceRats(rows, cols)
	free := 0
	for slices.Contains(pivots, free) {
		free++
	}
	if free == cols {
		return nil
	}
	x := zeros(cols)
	x[free] = frac("1")
	for i, col := range pivots {
		x[col] = fraction.Neg(fromRat(rows[i][free]))
	}
	return x
}
