package catalog_test

import (
	"math"
	"slices"
	"testing"

	"saleroom/api"
	"saleroom/catalog"
)

// expectCheck expects the error from Check(l).
func expectCheck(t *testing.T, l []api.Product, want api.Errno) {
	t.Helper()
	if got := catalog.Check(l); got != want {
		t.Errorf("Check(%v) = %v, want %v", l, got, want)
	}
}

// P8.1
func TestCheck(t *testing.T) {
	expectCheck(t, example(), api.OK)
	expectCheck(t, list(1), api.OK)
	expectCheck(t, list(1, 1, 1, 1, 1, 1), api.OK)
	for _, name := range []string{"a", "z", "a1", "a_", "abcdefghijkl", "a23456789012"} {
		expectCheck(t, []api.Product{{Name: name, Supply: 1}}, api.OK)
	}
	for _, least := range []api.Product{
		{Name: "a", Supply: 1},
		{Name: "a", Supply: units},
		{Name: "a", Supply: 1, Reserve: value},
		{Name: "a", Supply: 1, Points: points},
		{Name: "a", Supply: 1, Group: classes},
		{Name: "a", Supply: units, Reserve: value, Points: points, Group: classes},
	} {
		expectCheck(t, []api.Product{least}, api.OK)
	}
	source := newSource()
	for range 1000 {
		expectCheck(t, someList(source), api.OK)
	}
}

// P8.1: the example of the chapter, and the number of products
func TestCheckErrors(t *testing.T) {
	expectCheck(t, []api.Product{{Name: "a", Supply: 5}}, api.ErrRange)
	for _, bad := range badLists() {
		expectCheck(t, bad.l, bad.err)
	}
	expectCheck(t, list(1, 1, 1, 1, 1, 1, 1), api.ErrLong)
	expectCheck(t, make([]api.Product, 1000), api.ErrLong)
	expectCheck(t, list(4, 4, 4, 4, 4, 4, 0), api.ErrLong)
}

// P8.1: every error of a product, at every place of a list
func TestCheckProduct(t *testing.T) {
	for _, f := range faults() {
		for n := 1; n <= products; n++ {
			for k := range n {
				l := list(1, 1, 1, 1, 1, 1)[:n]
				f.apply(&l[k])
				if got := catalog.Check(l); got != f.err {
					t.Errorf("Check with %s at %d of %d is %v, want %v", f.name, k, n, got, f.err)
				}
			}
		}
	}
}

// P8.1: a name that an earlier product has, next to it or not
func TestCheckSameNames(t *testing.T) {
	for later := range products {
		for earlier := range later {
			l := list(1, 1, 1, 1, 1, 1)
			l[later].Name = l[earlier].Name
			expectCheck(t, l, api.ErrExists)
			expectCheck(t, l[:later+1], api.ErrExists)
			expectCheck(t, l[:later], api.OK)
		}
	}
	expectCheck(t, []api.Product{{Name: "a", Supply: 1}, {Name: "aa", Supply: 1}, {Name: "a_", Supply: 1}, {Name: "a1", Supply: 1}}, api.OK)
}

// P8.1: of two products with errors the first one decides, and all of them come before ErrLimit.
func TestCheckOrderOfProducts(t *testing.T) {
	all := faults()
	for _, one := range all {
		for _, other := range all {
			l := list(4, 4, 4, 4, 4, 4)
			one.apply(&l[2])
			other.apply(&l[4])
			if got := catalog.Check(l); got != one.err {
				t.Fatalf("Check with %s before %s is %v, want %v", one.name, other.name, got, one.err)
			}
		}
		l := list(4, 4, 4, 4, 4, 4)
		one.apply(&l[5])
		if got := catalog.Check(l); got != one.err {
			t.Errorf("Check with %s and too many bundles is %v, want %v", one.name, got, one.err)
		}
	}
}

// P8.1: of the errors of a product, the name comes first, then the name of an earlier product, then the numbers.
func TestCheckOrderWithinAProduct(t *testing.T) {
	for _, f := range faults() {
		l := list(4, 4, 4, 4, 4, 4)
		f.apply(&l[3])
		l[3].Name = l[1].Name
		expectCheck(t, l, api.ErrExists)
		l[3].Name = "A"
		expectCheck(t, l, api.ErrName)
		l[5].Name = l[1].Name
		expectCheck(t, l, api.ErrName)
	}
	// An invalid name that an earlier product has is an error of the earlier product already.
	expectCheck(t, []api.Product{{Name: "A", Supply: 1}, {Name: "A", Supply: 1}}, api.ErrName)
	// Here the later product has the same name, but the earlier one has an error of its own.
	expectCheck(t, []api.Product{{Name: "a", Supply: 9}, {Name: "a", Supply: 1}}, api.ErrRange)
	expectCheck(t, []api.Product{{Name: "a", Supply: 4}, {Name: "a", Supply: 9}, {Name: "A"}}, api.ErrExists)
}

// P8.1: every list of valid supplies, of which some allow exactly 1024 bundles and some 1080
func TestCheckLimit(t *testing.T) {
	expectCheck(t, list(3, 3, 3, 3, 3), api.OK)
	expectCheck(t, list(4, 3, 2, 2, 2, 1), api.ErrLimit)
	eachSupplies(func(supplies []int) {
		count := 1
		for _, supply := range supplies {
			count *= supply + 1
		}
		want := api.OK
		if count > packages {
			want = api.ErrLimit
		}
		expectCheck(t, list(supplies...), want)
	})
}

// expectFind expects the index and the bool from Find(l, name).
func expectFind(t *testing.T, l []api.Product, name string, index int, found bool) {
	t.Helper()
	if got, is := catalog.Find(l, name); got != index || is != found {
		t.Errorf("Find(%v, %q) = %d, %v, want %d, %v", l, name, got, is, index, found)
	}
}

// P8.2: the example of the chapter, and names that no product has
func TestFind(t *testing.T) {
	expectFind(t, example(), "b", 1, true)
	expectFind(t, example(), "a", 0, true)
	for _, name := range append([]string{"c", "ab", "aa", "b1"}, badNames...) {
		expectFind(t, example(), name, 0, false)
		expectFind(t, nil, name, 0, false)
	}
	l := list(1, 1, 1, 1, 1, 1)
	for k, p := range l {
		expectFind(t, l, p.Name, k, true)
		expectFind(t, l[:k], p.Name, 0, false)
	}
}

// P8.2: the list need not be valid.
func TestFindInBadLists(t *testing.T) {
	l := []api.Product{{Name: "b"}, {Name: "a"}, {Name: "b"}, {Name: "A"}, {}, {Name: "a"}, {Name: "c"}, {}, {Name: "d", Supply: -1}}
	expectFind(t, l, "a", 1, true)
	expectFind(t, l, "b", 0, true)
	expectFind(t, l, "A", 3, true)
	expectFind(t, l, "", 4, true)
	expectFind(t, l, "c", 6, true)
	expectFind(t, l, "d", 8, true)
	expectFind(t, l, "e", 0, false)
	l = make([]api.Product, 100000)
	l[99999].Name = "abcdefghijklmnop"
	expectFind(t, l, "abcdefghijklmnop", 99999, true)
}

// expectSupply expects the bundle from Supply(l).
func expectSupply(t *testing.T, l []api.Product, want api.Bundle) {
	t.Helper()
	if got := catalog.Supply(l); got != want {
		t.Errorf("Supply(%v) = %v, want %v", l, got, want)
	}
}

// P8.2
func TestSupply(t *testing.T) {
	expectSupply(t, example(), with(2, 2))
	eachSupplies(func(supplies []int) {
		expectSupply(t, list(supplies...), with(supplies...))
	})
}

// P8.2: the list need not be valid, and only the first six products count.
func TestSupplyOfBadLists(t *testing.T) {
	expectSupply(t, nil, with())
	expectSupply(t, []api.Product{}, with())
	expectSupply(t, make([]api.Product, 3), with())
	expectSupply(t, []api.Product{{Supply: -1}, {Name: "a", Supply: 5}, {Name: "a", Supply: math.MaxInt}, {Supply: math.MinInt}}, with(-1, 5, math.MaxInt, math.MinInt))
	expectSupply(t, list(6, 5, 4, 3, 2, 1), with(6, 5, 4, 3, 2, 1))
	expectSupply(t, list(6, 5, 4, 3, 2, 1, 9), with(6, 5, 4, 3, 2, 1))
	expectSupply(t, list(0, 0, 0, 0, 0, 1, 2, 3, 4, 5, 6), with(0, 0, 0, 0, 0, 1))
	expectSupply(t, append(list(1, 2, 3, 4, 5, 6), make([]api.Product, 100000)...), with(1, 2, 3, 4, 5, 6))
}

// expectSums expects the points and the reserve of b, and the units of it in each group, of which there are none beyond the last one.
func expectSums(t *testing.T, l []api.Product, b api.Bundle, points int, reserve int64, inGroups [5]int) {
	t.Helper()
	if got := catalog.Points(l, b); got != points {
		t.Errorf("Points(%v, %v) = %d, want %d", l, b, got, points)
	}
	if got := catalog.Reserve(l, b); got != reserve {
		t.Errorf("Reserve(%v, %v) = %d, want %d", l, b, got, reserve)
	}
	for group, want := range inGroups {
		if got := catalog.Units(l, group, b); got != want {
			t.Errorf("Units(%v, %d, %v) = %d, want %d", l, group, b, got, want)
		}
	}
	for _, group := range append([]int{5, 256, 1 << 32}, wild...) {
		if got := catalog.Units(l, group, b); got != 0 {
			t.Errorf("Units(%v, %d, %v) = %d, want 0", l, group, b, got)
		}
	}
}

// P8.3: the example of the chapter
func TestSums(t *testing.T) {
	expectSums(t, example(), with(1, 2), 8, 0, [5]int{3})
	expectSums(t, example(), with(), 0, 0, [5]int{})
	l := []api.Product{
		{Name: "a", Supply: 2, Reserve: 100, Points: 20, Group: 1},
		{Name: "b", Supply: 1, Reserve: 7, Points: 0, Group: 2},
		{Name: "c", Supply: 1, Reserve: 0, Points: 3, Group: 1},
		{Name: "d", Supply: 1, Reserve: 10000, Points: 400, Group: 4},
		{Name: "e", Supply: 1, Reserve: 1, Points: 1, Group: 0},
		{Name: "f", Supply: 2, Reserve: 100000, Points: 1000, Group: 1},
	}
	expectSums(t, l, with(1, 0, 0, 0, 0, 0), 20, 100, [5]int{0, 1})
	expectSums(t, l, with(0, 0, 0, 0, 0, 1), 1000, 100000, [5]int{0, 1})
	expectSums(t, l, with(2, 1, 1, 1, 1, 2), 2444, 210208, [5]int{1, 5, 1, 0, 1})
	expectSums(t, l, with(0, 1, 0, 1, 0, 1), 1400, 110007, [5]int{0, 1, 1, 0, 1})
}

// P8.3: the greatest sums; a valid bundle need not be within the supply.
func TestGreatestSums(t *testing.T) {
	var l []api.Product
	for _, name := range []string{"a", "b", "c", "d", "e", "f"} {
		l = append(l, api.Product{Name: name, Supply: 1, Reserve: value, Points: points, Group: classes})
	}
	expectSums(t, l, same(units), 24000, 24000000, [5]int{4: 24})
	expectSums(t, example(), with(4, 3), 17, 0, [5]int{7})
}

// P8.3: quantities of products that the list does not have are ignored.
func TestSumsOfOtherProducts(t *testing.T) {
	expectSums(t, example(), with(1, 2, 4, 4, 4, 4), 8, 0, [5]int{3})
	expectSums(t, example(), with(0, 0, 1, 0, 0, 1), 0, 0, [5]int{})
	expectSums(t, list(1), with(3, 4, 4, 4, 4, 4), 30, 300, [5]int{3})
}

// P8.3: the sums are 0 for lists and for bundles that are not valid, also where a quantity of a product that the list does not have is wrong.
func TestSumsOfBadArguments(t *testing.T) {
	for _, bad := range badLists() {
		expectSums(t, bad.l, with(1, 2), 0, 0, [5]int{})
		expectSums(t, bad.l, same(1), 0, 0, [5]int{})
	}
	for _, b := range badBundles() {
		expectSums(t, list(2, 2), b, 0, 0, [5]int{})
		expectSums(t, list(1, 1, 1, 1, 1, 1), b, 0, 0, [5]int{})
	}
}

// P8.3: against the definition
func TestManySums(t *testing.T) {
	source := newSource()
	for range 5000 {
		l, b := someList(source), someBundle(source)
		var sumPoints int
		var sumReserve int64
		var inGroups [5]int
		for k, p := range l {
			sumPoints += b[k] * p.Points
			sumReserve += int64(b[k]) * p.Reserve
			inGroups[p.Group] += b[k]
		}
		expectSums(t, l, b, sumPoints, sumReserve, inGroups)
	}
}

// R3: the list and its spare capacity are not changed.
func TestArgumentsAreNotChanged(t *testing.T) {
	whole := append(example(), list(9, 9)...)
	kept := slices.Clone(whole)
	l := whole[:2]
	catalog.Check(l)
	catalog.Find(l, "b")
	catalog.Supply(l)
	catalog.Points(l, with(1, 2))
	catalog.Reserve(l, with(1, 2))
	catalog.Units(l, 0, with(1, 2))
	catalog.Format(l, with(1, 2))
	catalog.Parse(l, "{b:1,a:2}")
	catalog.Scan(l, nil)
	if !slices.Equal(whole, kept) {
		t.Errorf("the products became %v", whole)
	}
}
