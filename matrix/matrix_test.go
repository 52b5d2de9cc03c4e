package matrix_test

import (
	"math"
	"testing"

	"saleroom/api"
	"saleroom/fraction"
	"saleroom/matrix"
)

// P17.1
func TestNew(t *testing.T) {
	for _, rows := range []int{0, 1, 2, 7, 299, 300} {
		for _, cols := range []int{0, 1, 3, 299, 300} {
			m, e := matrix.New(rows, cols)
			if e != api.OK || len(m) != rows {
				t.Fatalf("New(%d, %d) has %d rows, %v", rows, cols, len(m), e)
			}
			for _, row := range m {
				expectCol(t, "a row", row, zeros(cols))
			}
		}
	}
}

// P17.1: each number beyond either limit, with any other number
func TestNewErrors(t *testing.T) {
	wrong := []int{math.MinInt, math.MinInt32, -300, -1, 301, 302, 1 << 16, math.MaxInt32, math.MaxInt}
	for _, bad := range wrong {
		for _, other := range append(wrong, 0, 1, 2, 300) {
			for _, size := range [][2]int{{bad, other}, {other, bad}} {
				if m, e := matrix.New(size[0], size[1]); len(m) != 0 || e != api.ErrRange {
					t.Errorf("New(%d, %d) has %d rows, %v", size[0], size[1], len(m), e)
				}
			}
		}
	}
}

// P17.2: the example of the chapter, and others
func TestTimes(t *testing.T) {
	cases := []struct {
		m       matrix.Matrix
		x, want string
	}{
		{mat("1 2", "3 4"), "1 1", "3 7"},
		{mat("1 2", "3 4"), "1 0", "1 3"},
		{mat("1 2", "3 4"), "0 1", "2 4"},
		{mat("1 2", "3 4"), "0 0", "0 0"},
		{mat("1 2 3"), "1 1/2 1/3", "3"},
		{mat("1", "2", "3"), "1/2", "1/2 1 3/2"},
		{mat("1/2 -1/3", "0 0"), "2 3", "0 0"},
		{mat("18446744073709551616 1"), "1/4294967296 -1", "4294967295"},
		{mat("", "", ""), "", "0 0 0"},
		{nil, "", ""},
	}
	for _, c := range cases {
		expectCol(t, "the product of "+showRows(c.m)+" and "+c.x, matrix.Times(c.m, col(c.x)), col(c.want))
	}
}

// P17.2: matrices that are not regular in form, and columns that are too short or too long
func TestTimesOfOtherForm(t *testing.T) {
	for _, m := range irregular() {
		for _, x := range []string{"", "1", "1 2", "1 2 3"} {
			expectCol(t, "the product of "+showRows(m)+" and "+x, matrix.Times(m, col(x)), nil)
		}
	}
	for _, x := range []string{"", "1", "1 2 3"} {
		expectCol(t, "the product with "+x, matrix.Times(mat("1 2", "3 4"), col(x)), nil)
	}
	expectCol(t, "the product of no rows", matrix.Times(nil, col("1")), nil)
	expectCol(t, "the product of no columns", matrix.Times(mat("", ""), col("1")), nil)
}

// P17.2
func TestTransposed(t *testing.T) {
	cases := []struct{ m, want matrix.Matrix }{
		{mat("1 2", "3 4"), mat("1 3", "2 4")},
		{mat("1 2 -3/4"), mat("1", "2", "-3/4")},
		{mat("1", "2", "-3/4"), mat("1 2 -3/4")},
		{mat("1 2", "3 4", "5 6"), mat("1 3 5", "2 4 6")},
		{mat("0"), mat("0")},
		{nil, nil},
		{mat(""), nil},
		{mat("", "", ""), nil},
	}
	for _, c := range cases {
		expectMat(t, "the transposed "+showRows(c.m), matrix.Transposed(c.m), c.want)
	}
	for _, m := range irregular() {
		expectMat(t, "the transposed "+showRows(m), matrix.Transposed(m), nil)
	}
}

// P17.2: random matrices, by the definition
func TestProductsByDefinition(t *testing.T) {
	source := newSource()
	for range 300 {
		rows, cols := 1+source.IntN(6), 1+source.IntN(6)
		m, x := someMat(source, rows, cols), someCol(source, cols)
		product, other := matrix.Times(m, x), matrix.Transposed(m)
		if len(product) != rows || len(other) != cols {
			t.Fatalf("%s has a product with %d elements and %d transposed rows", showRows(m), len(product), len(other))
		}
		for i := range rows {
			sum := frac("0")
			for k := range cols {
				sum = fraction.Add(sum, fraction.Mul(m[i][k], x[k]))
				if len(other[k]) != rows || !equal(other[k][i], m[i][k]) {
					t.Fatalf("the transposed %s is %s", showRows(m), showRows(other))
				}
			}
			if !equal(product[i], sum) {
				t.Fatalf("the product of %s and %s is %s", showRows(m), show(x), show(product))
			}
		}
		expectMat(t, "the matrix transposed twice", matrix.Transposed(other), m)
	}
}

// P17.3: the example of the chapter, and others
func TestPivot(t *testing.T) {
	cases := []struct {
		m        matrix.Matrix
		row, col int
		want     matrix.Matrix
	}{
		{mat("2 4", "3 5"), 0, 0, mat("1 2", "0 -1")},
		{mat("2 4", "3 5"), 0, 1, mat("1/2 1", "1/2 0")},
		{mat("2 4", "3 5"), 1, 0, mat("0 2/3", "1 5/3")},
		{mat("2 4", "3 5"), 1, 1, mat("-2/5 0", "3/5 1")},
		{mat("-3/7"), 0, 0, mat("1")},
		{mat("1 2 3"), 0, 2, mat("1/3 2/3 1")},
		{mat("1", "2", "0"), 1, 0, mat("0", "1", "0")},
		{mat("1 5", "0 7", "2 0"), 0, 0, mat("1 5", "0 7", "0 -10")},
		{mat("0 0", "0 -2"), 1, 1, mat("0 0", "0 1")},
		{mat("4294967296 1", "18446744073709551616 1"), 0, 0, mat("1 1/4294967296", "0 -4294967295")},
	}
	for _, c := range cases {
		expectPivot(t, c.m, c.row, c.col, c.want, api.OK)
	}
}

// P17.3: each error, and ErrFormat before ErrRange; where there is no such element, it is not 0.
func TestPivotErrors(t *testing.T) {
	for _, m := range irregular() {
		for _, at := range [][2]int{{0, 0}, {1, 0}, {0, 1}, {-1, 0}, {0, -1}, {9, 9}} {
			expectPivot(t, m, at[0], at[1], nil, api.ErrFormat)
		}
	}
	wrong := []int{math.MinInt, -2, -1, 3, 4, 300, math.MaxInt}
	for _, m := range []matrix.Matrix{mat("1 2 3", "4 5 6", "7 8 9"), mat("0 0 0", "0 0 0", "0 0 0")} {
		for _, bad := range wrong {
			for _, other := range append(wrong, 0, 2) {
				expectPivot(t, m, bad, other, nil, api.ErrRange)
				expectPivot(t, m, other, bad, nil, api.ErrRange)
			}
		}
	}
	expectPivot(t, mat("1 2 3", "4 5 6"), 2, 0, nil, api.ErrRange)
	expectPivot(t, mat("1 2", "3 4", "5 6"), 0, 2, nil, api.ErrRange)
	expectPivot(t, nil, 0, 0, nil, api.ErrRange)
	expectPivot(t, mat("", ""), 0, 0, nil, api.ErrRange)
	expectPivot(t, mat("0"), 0, 0, nil, api.ErrDivide)
	expectPivot(t, mat("1 0", "0 1"), 0, 1, nil, api.ErrDivide)
	expectPivot(t, mat("1 0", "0 1"), 1, 0, nil, api.ErrDivide)
	expectPivot(t, matrix.Matrix{{{Num: api.Nat{}, Den: api.Nat{1}}}}, 0, 0, nil, api.ErrDivide)
}

// P17.3: every element of random matrices, against another implementation
func TestPivotOfManyMatrices(t *testing.T) {
	source := newSource()
	counts := map[api.Errno]int{}
	for range 200 {
		m := someMat(source, 1+source.IntN(5), 1+source.IntN(5))
		for row := range m {
			for col, f := range m[row] {
				if fraction.Sign(f) == 0 {
					counts[api.ErrDivide]++
					expectPivot(t, m, row, col, nil, api.ErrDivide)
					continue
				}
				counts[api.OK]++
				rows := toRats(m)
				pivotRats(rows, row, col)
				expectPivot(t, m, row, col, fromRats(rows), api.OK)
			}
		}
	}
	if counts[api.OK] < 300 || counts[api.ErrDivide] < 300 {
		t.Errorf("the results are %v", counts)
	}
}
