package matrix_test

import (
	"slices"
	"testing"

	"saleroom/api"
	"saleroom/fraction"
	"saleroom/matrix"
)

// P17.4: the examples of the chapter, and others with free columns, further rows and large numbers
func TestSolve(t *testing.T) {
	cases := []struct {
		m       matrix.Matrix
		b, want string
	}{
		{mat("1 1", "1 -1"), "3 1", "2 1"},
		{mat("0 1", "1 0"), "3 1", "1 3"},
		{mat("2"), "1", "1/2"},
		{mat("1/2 1/3", "1/4 1/5"), "1 1", "-8 15"},
		{mat("1 1"), "3", "3 0"},
		{mat("0 2"), "3", "0 3/2"},
		{mat("0 0 2 4"), "3", "0 0 3/2 0"},
		{mat("0 1 2 0 3", "0 0 0 1 4"), "5 6", "0 5 0 6 0"},
		{mat("1 2 1", "2 4 3"), "1 1", "2 0 -1"},
		{mat("1 1", "2 2"), "1 2", "1 0"},
		{mat("1 1", "1 -1", "3 1"), "3 1 7", "2 1"},
		{mat("0 0", "1 2", "0 0", "1 3"), "0 1 0 2", "-1 1"},
		{mat("0 0"), "0", "0 0"},
		{mat("1 2", "3 4"), "0 0", "0 0"},
		{mat("18446744073709551616 1", "1 18446744073709551616"), "18446744073709551617 18446744073709551617", "1 1"},
		{mat("1/18446744073709551616"), "1/4294967296", "4294967296"},
		{mat("", ""), "0 0", ""},
		{mat(""), "0", ""},
		{nil, "", ""},
	}
	for _, c := range cases {
		expectSolve(t, c.m, col(c.b), col(c.want), api.OK)
	}
}

// P17.4: systems without a solution
func TestSolveNone(t *testing.T) {
	cases := []struct {
		m matrix.Matrix
		b string
	}{
		{mat("1 1", "2 2"), "1 3"},
		{mat("0"), "1"},
		{mat("0 0 0"), "-1/18446744073709551616"},
		{mat("1", "1"), "1 2"},
		{mat("1 1", "1 -1", "3 1"), "3 1 8"},
		{mat("1 2", "0 0"), "0 1"},
		{mat("1 2 3", "4 5 6", "7 8 9"), "1 2 4"},
		{mat("", ""), "0 1"},
		{mat(""), "1/2"},
	}
	for _, c := range cases {
		expectSolve(t, c.m, col(c.b), nil, api.ErrNone)
	}
}

// P17.4: ErrFormat, also where no solution could exist
func TestSolveOfOtherForm(t *testing.T) {
	for _, m := range irregular() {
		for _, b := range []string{"", "1", "1 2", "0 0 0", "1 2 3 4"} {
			expectSolve(t, m, col(b), nil, api.ErrFormat)
		}
	}
	for _, m := range []matrix.Matrix{mat("1 2", "3 4"), mat("1 1", "1 1"), mat("", ""), mat("1", "2"), mat("1 2 3", "4 5 6")} {
		for _, b := range []string{"", "1", "1 2 3", "0 0 0 0"} {
			expectSolve(t, m, col(b), nil, api.ErrFormat)
		}
	}
	expectSolve(t, nil, col("0"), nil, api.ErrFormat)
	expectSolve(t, mat(""), nil, nil, api.ErrFormat)
}

// P17.5
func TestRank(t *testing.T) {
	cases := []struct {
		m    matrix.Matrix
		want int
	}{
		{mat("1 1", "1 -1"), 2},
		{mat("1 1", "2 2"), 1},
		{mat("0 0", "0 0"), 0},
		{mat("1 2 3", "4 5 6", "7 8 9"), 2},
		{mat("1 2 3", "4 5 6", "7 8 10"), 3},
		{mat("1 2 3"), 1},
		{mat("0 0 3"), 1},
		{mat("1", "2", "3"), 1},
		{mat("0", "0", "-1/7"), 1},
		{mat("1/2 1/3", "1/3 2/9"), 1},
		{mat("1/2 1/3", "1/3 1/4"), 2},
		{mat("0 1 0 2", "0 0 0 1", "0 1 0 3"), 2},
		{mat("4294967296 1", "18446744073709551616 4294967296"), 1},
		{mat("4294967296 1", "18446744073709551616 4294967295"), 2},
		{mat("", ""), 0},
		{nil, 0},
	}
	for _, c := range cases {
		if got := matrix.Rank(c.m); got != c.want {
			t.Errorf("the rank of %s is %d, want %d", showRows(c.m), got, c.want)
		}
	}
	for _, m := range irregular() {
		if got := matrix.Rank(m); got != 0 {
			t.Errorf("the rank of %s is %d", showRows(m), got)
		}
	}
}

// P17.6: the example of the chapter, and others with several free columns and with none
func TestNull(t *testing.T) {
	cases := []struct {
		m    matrix.Matrix
		want string
	}{
		{mat("1 2"), "-2 1"},
		{mat("2 1"), "-1/2 1"},
		{mat("0"), "1"},
		{mat("0 0 0"), "1 0 0"},
		{mat("0 5 7"), "1 0 0"},
		{mat("1 2 3"), "-2 1 0"},
		{mat("1 0 3", "0 1 4"), "-3 -4 1"},
		{mat("1 0 3 9 0", "0 1 4 9 0", "0 0 0 0 1"), "-3 -4 1 0 0"},
		{mat("1 2 0 1", "0 0 1 1", "0 0 0 1"), "-2 1 0 0"},
		{mat("1 2 3", "4 5 6", "7 8 9"), "1 -2 1"},
		{mat("1/2 1/3", "1/3 2/9"), "-2/3 1"},
		{mat("0 0", "0 0", "3 5"), "-5/3 1"},
		{mat("4294967296 1"), "-1/4294967296 1"},
		{mat("1 1", "1 -1"), ""},
		{mat("1", "2", "3"), ""},
		{mat("5"), ""},
		{mat("", ""), ""},
		{nil, ""},
	}
	for _, c := range cases {
		expectCol(t, "Null of "+showRows(c.m), matrix.Null(c.m), col(c.want))
	}
	for _, m := range irregular() {
		expectCol(t, "Null of "+showRows(m), matrix.Null(m), nil)
	}
}

// compare compares Solve, Rank and Null of a matrix with so many columns with the reference, and counts the errors.
func compare(t *testing.T, m matrix.Matrix, b []api.Frac, cols int, counts map[api.Errno]int) {
	t.Helper()
	want, e := solveByRats(m, b, cols)
	counts[e]++
	expectSolve(t, m, b, want, e)
	if got, want := matrix.Rank(m), len(reduceRats(toRats(m), cols)); got != want {
		t.Fatalf("the rank of %s is %d, want %d", showRows(m), got, want)
	}
	expectCol(t, "Null of "+showRows(m), matrix.Null(m), nullByRats(m, cols))
}

// P17.4, P17.5, P17.6: all matrices of two rows and three columns, and of three rows and two columns, of -1, 0 and 1
func TestAllSmallMatrices(t *testing.T) {
	counts := map[api.Errno]int{}
	for code := range 729 * 27 {
		var digits []api.Frac
		for rest := code; len(digits) < 9; rest /= 3 {
			digits = append(digits, fraction.FromInt(int64(rest%3-1)))
		}
		compare(t, matrix.Matrix{digits[:2], digits[2:4], digits[4:6]}, digits[6:], 2, counts)
		if code < 729*9 {
			compare(t, matrix.Matrix{digits[:3], digits[3:6]}, digits[6:8], 3, counts)
		}
	}
	if counts[api.OK] < 8000 || counts[api.ErrNone] < 8000 {
		t.Errorf("the results are %v", counts)
	}
}

// P17.4, P17.5, P17.6: random matrices, against another implementation
func TestManyMatrices(t *testing.T) {
	source := newSource()
	counts := map[api.Errno]int{}
	for range 2000 {
		rows, cols := 1+source.IntN(7), source.IntN(8)
		m, b := someMat(source, rows, cols), someCol(source, rows)
		if source.IntN(2) == 0 {
			b = matrix.Times(m, someCol(source, cols))
		}
		compare(t, m, b, cols, counts)
	}
	if counts[api.OK] < 500 || counts[api.ErrNone] < 300 {
		t.Errorf("the results are %v", counts)
	}
}

// P17.4, P17.5, P17.6: matrices of large fractions
func TestMatricesOfLargeFractions(t *testing.T) {
	source := newSource()
	for range 20 {
		rows, cols := 5+source.IntN(8), 5+source.IntN(8)
		var m matrix.Matrix
		for range rows {
			var row []api.Frac
			for range cols {
				row = append(row, someFrac(source, 1<<40, 1<<9))
			}
			m = append(m, row)
		}
		b := slices.Clone(m[0])
		for len(b) < rows {
			b = append(b, someFrac(source, 1<<61, 1<<61))
		}
		compare(t, m, b[:rows], cols, map[api.Errno]int{})
	}
}

// hilbert returns the matrix of the fractions 1 / (i + k + 1), whose determinant is far smaller than its elements.
func hilbert(n int) matrix.Matrix {
	var m matrix.Matrix
	for i := range int64(n) {
		var row []api.Frac
		for k := range int64(n) {
			f, _ := fraction.New(1, i+k+1)
			row = append(row, f)
		}
		m = append(m, row)
	}
	return m
}

// P17.4, P17.5: there are no rounding errors.
func TestHilbert(t *testing.T) {
	const n = 40
	m := hilbert(n)
	var want []api.Frac
	for i := range int64(n) {
		f, _ := fraction.New(i-20, i+1)
		want = append(want, f)
	}
	expectSolve(t, m, matrix.Times(m, want), want, api.OK)
	if got := matrix.Rank(m); got != n {
		t.Errorf("the rank is %d", got)
	}
	expectCol(t, "Null", matrix.Null(m), nil)
}

// P17.4, P17.5, P17.6: matrices of the greatest size that New returns, and greater ones. Each row subtracts the next element
// from one, in a circle, so that the last column is free.
func TestGreatMatrices(t *testing.T) {
	for _, n := range []int{300, 350} {
		var m matrix.Matrix
		for i := range n {
			row := zeros(n)
			row[i], row[(i+1)%n] = frac("1"), frac("-1")
			m = append(m, row)
		}
		if got := matrix.Rank(m); got != n-1 {
			t.Fatalf("the rank is %d", got)
		}
		expectCol(t, "Null", matrix.Null(m), slices.Repeat(col("1"), n))
		b, want := zeros(n), zeros(n)
		b[1], b[n-1] = frac("3"), frac("-3")
		want[0], want[1] = frac("3"), frac("3")
		expectSolve(t, m, b, want, api.OK)
		b[2] = frac("1")
		expectSolve(t, m, b, nil, api.ErrNone)
	}
}
