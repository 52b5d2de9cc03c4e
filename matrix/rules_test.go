package matrix_test

import (
	"slices"
	"testing"

	"saleroom/api"
	"saleroom/fraction"
	"saleroom/matrix"
)

// badFracs are not valid.
func badFracs() []api.Frac {
	return []api.Frac{
		{},
		{Neg: true},
		{Num: api.Nat{1}},
		{Neg: true, Num: api.Nat{1}, Den: api.Nat{0}},
		{Neg: true, Den: api.Nat{1}},
		{Den: api.Nat{2}},
		{Num: api.Nat{0}, Den: api.Nat{1}},
		{Num: api.Nat{1, 0}, Den: api.Nat{1}},
		{Num: api.Nat{2}, Den: api.Nat{4}},
		{Neg: true, Num: api.Nat{6}, Den: api.Nat{4, 0}},
	}
}

// useAll calls every function with a matrix and a column.
func useAll(m matrix.Matrix, x []api.Frac) {
	matrix.Times(m, x)
	matrix.Transposed(m)
	for row := range m {
		for col := range m[row] {
			matrix.Pivot(m, row, col)
		}
	}
	matrix.Solve(m, x)
	matrix.Rank(m)
	matrix.Null(m)
}

// R1, R5: a bad fraction at each place of some matrices and columns does no harm.
func TestOneInvalidFraction(t *testing.T) {
	for _, m := range []matrix.Matrix{mat("1 2", "3 4"), mat("0 0", "0 0"), mat("1 0 1/2", "2 0 1", "0 3 0"), mat("1", "-2/3")} {
		for _, bad := range badFracs() {
			for i := range m {
				for k := range m[i] {
					old := m[i][k]
					m[i][k] = bad
					useAll(m, zeros(len(m)))
					m[i][k] = old
				}
				b := zeros(len(m))
				b[i] = bad
				useAll(m, b)
			}
		}
	}
}

// R1, R5: nor do many of them in great matrices, where a number that is not in lowest terms could grow again and again.
func TestManyInvalidFractions(t *testing.T) {
	source := newSource()
	bad := badFracs()
	for i := range 40 {
		n := 2 + i
		var m matrix.Matrix
		for range n {
			row := someCol(source, n)
			for k := range row {
				if source.IntN(2) == 0 {
					row[k] = bad[source.IntN(len(bad))]
				}
			}
			m = append(m, row)
		}
		matrix.Times(m, m[0])
		matrix.Transposed(m)
		matrix.Pivot(m, 0, 0)
		matrix.Solve(m, m[0])
		matrix.Rank(m)
		matrix.Null(m)
	}
	var m matrix.Matrix
	for i := range 60 {
		row := slices.Repeat([]api.Frac{{Num: api.Nat{2}, Den: api.Nat{4}}}, 60)
		row[i] = api.Frac{Num: api.Nat{6}, Den: api.Nat{4}}
		m = append(m, row)
	}
	matrix.Solve(m, m[0])
	matrix.Rank(m)
	matrix.Null(m)
}

const spare = 3

// roomy returns a list in new memory, with spare capacity that is filled.
func roomy[T any](l []T, filling T) []T {
	longer := slices.Clone(l)
	for range spare {
		longer = append(longer, filling)
	}
	return longer[:len(l)]
}

// roomyCol returns a column in new memory, with spare capacity at every level.
func roomyCol(x []api.Frac) []api.Frac {
	var l []api.Frac
	for _, f := range x {
		l = append(l, api.Frac{Neg: f.Neg, Num: roomy(f.Num, 77), Den: roomy(f.Den, 77)})
	}
	return roomy(l, frac("77"))
}

// roomyMat returns a matrix in new memory, with spare capacity at every level.
func roomyMat(m matrix.Matrix) matrix.Matrix {
	var rows matrix.Matrix
	for _, row := range m {
		rows = append(rows, roomyCol(row))
	}
	return roomy(rows, col("77"))
}

// whole returns a list with its spare capacity.
func whole[T any](l []T) []T {
	return l[:cap(l)]
}

// wholeCol returns a column with its spare capacity at every level.
func wholeCol(x []api.Frac) []api.Frac {
	var l []api.Frac
	for _, f := range whole(x) {
		l = append(l, api.Frac{Neg: f.Neg, Num: slices.Clone(whole(f.Num)), Den: slices.Clone(whole(f.Den))})
	}
	return l
}

// wholeMat returns a matrix with its spare capacity at every level.
func wholeMat(m matrix.Matrix) matrix.Matrix {
	var rows matrix.Matrix
	for _, row := range whole(m) {
		rows = append(rows, wholeCol(row))
	}
	return rows
}

// results returns what the functions return for a matrix and a column.
func results(m matrix.Matrix, b []api.Frac) []matrix.Matrix {
	product, null := matrix.Times(m, b), matrix.Null(m)
	solution, _ := matrix.Solve(m, b)
	all := []matrix.Matrix{{product}, {null}, {solution}, matrix.Transposed(m)}
	for row := range m {
		for col := range m[row] {
			after, _ := matrix.Pivot(m, row, col)
			all = append(all, after)
		}
	}
	return all
}

// examples returns matrices of different ranks with columns.
func examples() ([]matrix.Matrix, [][]api.Frac) {
	return []matrix.Matrix{mat("1 2", "3 4"), mat("1 2", "2 4"), mat("0 1", "0 0"), mat("0 0 1/2", "2 0 0", "0 3 0"), mat("5")},
		[][]api.Frac{col("3 1"), col("1 2"), col("3 0"), col("1 2 3"), col("-1/2")}
}

// R3: no function changes its arguments, nor their spare capacity.
func TestArgumentsStay(t *testing.T) {
	mats, cols := examples()
	for i, m := range mats {
		given, b := roomyMat(m), roomyCol(cols[i])
		before, column := wholeMat(given), wholeCol(b)
		results(given, b)
		matrix.Rank(given)
		if after := wholeMat(given); !sameRows(after, before) {
			t.Errorf("%s becomes %s", showRows(before), showRows(after))
		}
		if after := wholeCol(b); !same(after, column) {
			t.Errorf("%s becomes %s", show(column), show(after))
		}
	}
}

// memory is the number lists, rows and matrices that results and arguments consist of.
type memory struct {
	parts []api.Nat
	rows  [][]api.Frac
	mats  []matrix.Matrix
}

func (s *memory) add(m matrix.Matrix) {
	s.mats = append(s.mats, m)
	for _, row := range m {
		s.rows = append(s.rows, row)
		for _, f := range row {
			s.parts = append(s.parts, f.Num, f.Den)
		}
	}
}

// isShared fills every list with a mark of its own, up to its capacity, and reports whether one has the mark of another.
func isShared[T any, L ~[]T](lists []L, mark func(int) T, has func(T, int) bool) bool {
	for i, l := range lists {
		all := l[:cap(l)]
		for k := range all {
			all[k] = mark(i)
		}
	}
	for i, l := range lists {
		for _, element := range l {
			if !has(element, i) {
				return true
			}
		}
	}
	return false
}

// isShared reports whether any two lists of the memory share a part of it, and destroys their elements.
func (s *memory) isShared() bool {
	markFrac := func(i int) api.Frac { return api.Frac{Num: api.Nat{uint32(i)}} }
	hasFrac := func(f api.Frac, i int) bool { return len(f.Num) == 1 && f.Num[0] == uint32(i) }
	return isShared(s.parts, func(i int) uint32 { return uint32(i) }, func(digit uint32, i int) bool { return digit == uint32(i) }) ||
		isShared(s.rows, markFrac, hasFrac) ||
		isShared(s.mats, func(i int) []api.Frac { return []api.Frac{markFrac(i)} },
			func(row []api.Frac, i int) bool { return len(row) == 1 && hasFrac(row[0], i) })
}

// R3: results are new memory, which they do not share with one another or with the arguments.
func TestResultsAreNew(t *testing.T) {
	shared := memory{}
	shared.add(matrix.Matrix{col("1 2")[:1]})
	shared.add(shared.mats[0])
	if !shared.isShared() {
		t.Fatal("a matrix shares no memory with itself")
	}
	mats, cols := examples()
	for i, m := range mats {
		all := &memory{}
		all.add(m)
		all.add(matrix.Matrix{cols[i]})
		for range 2 {
			for _, result := range results(m, cols[i]) {
				all.add(result)
			}
		}
		for range 2 {
			zeros, _ := matrix.New(2, 3)
			all.add(zeros)
		}
		text := showRows(m)
		if all.isShared() {
			t.Errorf("the results for %s share memory", text)
		}
	}
}

// R2, R7: the results are the same again, whatever the caller does with them, and valid.
func TestAgain(t *testing.T) {
	mats, cols := examples()
	for i, m := range mats {
		var before []matrix.Matrix
		for _, result := range results(m, cols[i]) {
			for _, row := range result {
				if slices.ContainsFunc(row, func(f api.Frac) bool { return !fraction.Valid(f) }) {
					t.Fatalf("a result for %s is %s", showRows(m), showRows(result))
				}
			}
			before = append(before, roomyMat(result))
			for k := range result {
				for j := range result[k] {
					result[k][j] = frac("77")
				}
			}
		}
		for k, result := range results(m, cols[i]) {
			expectMat(t, "the result for "+showRows(m), result, before[k])
		}
	}
}
