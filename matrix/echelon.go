package matrix

import (
	"slices"

	"saleroom/api"
	"saleroom/fraction"
)

// echelon is what remains of a matrix when multiples of its rows are added to others until no more zeros result. The first
// element of row i that is not 0 is in the column pivots[i], and there are no rows of zeros.
type echelon struct {
	rows   Matrix
	pivots []int
}

// reduce returns the echelon form of the first cols columns of a matrix. Its rows consist of integers, among which no common
// factors have to be searched for; they are minors of the matrix and therefore do not grow beyond measure.
func reduce(m Matrix, cols int) echelon {
	rest := build(len(m), func(i int) []api.Frac { return whole(m[i]) })
	last := fraction.FromInt(1)
	var reduced echelon
	for col := range cols {
		i := slices.IndexFunc(rest, func(row []api.Frac) bool { return fraction.Sign(row[col]) != 0 })
		if i < 0 {
			continue
		}
		pivot := rest[i]
		rest = slices.Delete(rest, i, i+1)
		for k, row := range rest {
			rest[k] = cleared(row, pivot, col, last)
		}
		last = pivot[col]
		reduced.rows = append(reduced.rows, pivot)
		reduced.pivots = append(reduced.pivots, col)
	}
	return reduced
}

// whole returns the row times the least common denominator of its elements.
func whole(row []api.Frac) []api.Frac {
	common := fraction.FromInt(1)
	for _, f := range row {
		missing, _ := fraction.Make(false, fraction.Mul(common, f).Den, api.Nat{1})
		common = fraction.Mul(common, missing)
	}
	return multiple(row, common)
}

// cleared returns a multiple of the row plus one of the pivot row, with a 0 in the column col. The division by the last
// pivot leaves no remainder (Bareiss).
func cleared(row, pivot []api.Frac, col int, last api.Frac) []api.Frac {
	return build(len(row), func(k int) api.Frac {
		if fraction.Sign(row[k]) == 0 && fraction.Sign(pivot[k]) == 0 {
			return row[k]
		}
		left, right := fraction.Mul(pivot[col], row[k]), fraction.Mul(row[col], pivot[k])
		quotient, _ := fraction.Div(fraction.Sub(left, right), last)
		return quotient
	})
}

// firstFree returns the first column that is not a pivot column.
func (e echelon) firstFree() int {
	for i, col := range e.pivots {
		if col != i {
			return i
		}
	}
	return len(e.pivots)
}

// null returns the column of cols elements whose product with the rows has only zeros, and which has the value for the
// given free column and zeros for the other free columns.
func (e echelon) null(cols, free int, value api.Frac) []api.Frac {
	x := build(cols, zero)
	x[free] = value
	for i, col := range slices.Backward(e.pivots) {
		others := fraction.Dot(e.rows[i][col+1:], x[col+1:])
		x[col], _ = fraction.Div(fraction.Neg(others), e.rows[i][col])
	}
	return x
}
