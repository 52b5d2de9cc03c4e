package roster_test

import (
	"math"
	"slices"
	"testing"

	"saleroom/api"
	"saleroom/roster"
)

// expectCheck expects the error from Check(l).
func expectCheck(t *testing.T, l []api.Bidder, want api.Errno) {
	t.Helper()
	if got := roster.Check(l); got != want {
		t.Errorf("Check(%v) = %v, want %v", l, got, want)
	}
}

// P9.1
func TestCheck(t *testing.T) {
	expectCheck(t, example(), api.OK)
	for n := 1; n <= bidders; n++ {
		expectCheck(t, list(n), api.OK)
	}
	for _, name := range []string{"a", "z", "a1", "a_", "abcdefghijkl", "a23456789012"} {
		expectCheck(t, []api.Bidder{{Name: name}}, api.OK)
	}
	for _, b := range []api.Bidder{
		{Name: "a"},
		{Name: "a", Class: 1},
		{Name: "a", Class: classes},
		{Name: "a", Budget: 1},
		{Name: "a", Budget: budget},
		{Name: "a", Points: 1},
		{Name: "a", Points: points},
		{Name: "a", Class: classes, Budget: budget, Points: points},
	} {
		expectCheck(t, []api.Bidder{b}, api.OK)
	}
}

// P9.1: bidders that differ only in their names, by a character, at the end, or in length
func TestCheckSimilarNames(t *testing.T) {
	var l []api.Bidder
	for _, name := range []string{"a", "aa", "a_", "a1", "b", "abcdefghijkl", "abcdefghijkm", "abcdefghijk"} {
		l = append(l, api.Bidder{Name: name})
	}
	expectCheck(t, l, api.OK)
}

// P9.1: the number of bidders comes before everything else.
func TestCheckLength(t *testing.T) {
	expectCheck(t, nil, api.ErrShort)
	expectCheck(t, []api.Bidder{}, api.ErrShort)
	expectCheck(t, list(bidders)[:0], api.ErrShort)
	for _, n := range []int{bidders + 1, bidders + 2, 16, 256, 257, 1 << 16} {
		expectCheck(t, list(n), api.ErrLong)
		expectCheck(t, make([]api.Bidder, n), api.ErrLong)
	}
	for _, f := range faults() {
		l := list(bidders + 1)
		f.apply(&l[0])
		expectCheck(t, l, api.ErrLong)
	}
	expectCheck(t, make([]api.Bidder, bidders), api.ErrName)
}

// P9.1: every error of a bidder, at every place of a list
func TestCheckBidder(t *testing.T) {
	for _, f := range faults() {
		for n := 1; n <= bidders; n++ {
			for i := range n {
				l := list(n)
				f.apply(&l[i])
				if got := roster.Check(l); got != f.err {
					t.Errorf("Check with %s at %d of %d is %v, want %v", f.name, i, n, got, f.err)
				}
			}
		}
	}
}

// P9.1: a name that an earlier bidder has, next to it or not
func TestCheckSameNames(t *testing.T) {
	for later := range bidders {
		for earlier := range later {
			l := list(bidders)
			l[later].Name = l[earlier].Name
			expectCheck(t, l, api.ErrExists)
			expectCheck(t, l[:later+1], api.ErrExists)
			expectCheck(t, l[:later], api.OK)
		}
	}
}

// P9.1: of two bidders with errors the first one decides.
func TestCheckOrderOfBidders(t *testing.T) {
	all := faults()
	for _, one := range all {
		for _, other := range all {
			l := list(bidders)
			one.apply(&l[2])
			other.apply(&l[6])
			if got := roster.Check(l); got != one.err {
				t.Fatalf("Check with %s before %s is %v, want %v", one.name, other.name, got, one.err)
			}
		}
		l := list(bidders)
		l[4].Name = l[1].Name
		one.apply(&l[5])
		expectCheck(t, l, api.ErrExists)
		one.apply(&l[3])
		expectCheck(t, l, one.err)
	}
}

// P9.1: of the errors of a bidder, the name comes first, then the name of an earlier bidder, then the numbers.
func TestCheckOrderWithinABidder(t *testing.T) {
	for _, f := range faults() {
		l := list(bidders)
		f.apply(&l[3])
		l[3].Name = l[1].Name
		expectCheck(t, l, api.ErrExists)
		l[3].Name = "A"
		expectCheck(t, l, api.ErrName)
	}
	// A name that is not valid is an error of the first bidder that has it.
	expectCheck(t, named("a", "A", "A"), api.ErrName)
	// Here the later bidder has the same name, but the earlier one has an error of its own.
	expectCheck(t, []api.Bidder{{Name: "a", Class: 9}, {Name: "a"}}, api.ErrRange)
	expectCheck(t, []api.Bidder{{Name: "a"}, {Name: "a", Class: 9}, {Name: "A"}}, api.ErrExists)
}

// expectFind expects the index and the bool from Find(l, name).
func expectFind(t *testing.T, l []api.Bidder, name string, index int, found bool) {
	t.Helper()
	if got, is := roster.Find(l, name); got != index || is != found {
		t.Errorf("Find(%v, %q) = %d, %v, want %d, %v", l, name, got, is, index, found)
	}
}

// P9.2
func TestFind(t *testing.T) {
	expectFind(t, example(), "ann", 0, true)
	expectFind(t, example(), "bob", 1, true)
	expectFind(t, example(), "cyd", 2, true)
	for _, name := range append([]string{"dan", "an", "annn", "Ann", "ann ", " ann", "bo", "cyd1"}, badNames...) {
		expectFind(t, example(), name, 0, false)
		expectFind(t, nil, name, 0, false)
		expectFind(t, []api.Bidder{}, name, 0, false)
	}
	l := list(bidders)
	for i, b := range l {
		expectFind(t, l, b.Name, i, true)
		expectFind(t, l[:i], b.Name, 0, false)
	}
}

// P9.2: the list need not be valid; of several bidders with the name it is the first one.
func TestFindInBadLists(t *testing.T) {
	l := named("bob", "ann", "bob", "A", "", "ann", "cyd", "", "abcdefghijklmnop", "dan")
	l[9] = api.Bidder{Name: "dan", Class: -1, Budget: -1, Points: -1}
	expectFind(t, l, "ann", 1, true)
	expectFind(t, l, "bob", 0, true)
	expectFind(t, l, "A", 3, true)
	expectFind(t, l, "", 4, true)
	expectFind(t, l, "cyd", 6, true)
	expectFind(t, l, "abcdefghijklmnop", 8, true)
	expectFind(t, l, "dan", 9, true)
	expectFind(t, l, "eve", 0, false)
	long := list(100000)
	expectFind(t, long, "b99999", 99999, true)
	expectFind(t, long, "b100000", 0, false)
}

// expectClass expects the indices from Class(l, class).
func expectClass(t *testing.T, l []api.Bidder, class int, want ...int) {
	t.Helper()
	if got := roster.Class(l, class); !slices.Equal(got, want) {
		t.Errorf("Class(%v, %d) = %v, want %v", l, class, got, want)
	}
}

// P9.3: the example of the chapter, and others
func TestClass(t *testing.T) {
	expectClass(t, inClasses(1, 0, 1), 1, 0, 2)
	expectClass(t, inClasses(1, 0, 1), 0, 1)
	expectClass(t, inClasses(1, 0, 1), 2)
	expectClass(t, inClasses(4, 3, 2, 1, 0, 4, 4, 3), 4, 0, 5, 6)
	expectClass(t, inClasses(4, 3, 2, 1, 0, 4, 4, 3), 3, 1, 7)
	expectClass(t, inClasses(4, 3, 2, 1, 0, 4, 4, 3), 0, 4)
	expectClass(t, inClasses(2, 2, 2, 2, 2, 2, 2, 2), 2, 0, 1, 2, 3, 4, 5, 6, 7)
	for _, class := range append([]int{0, 1, 5, 256, 1 << 32}, wild...) {
		expectClass(t, nil, class)
		expectClass(t, []api.Bidder{}, class)
		expectClass(t, inClasses(2, 3, 4), class)
	}
}

// P9.3: neither the list nor the class need be valid.
func TestClassOfBadLists(t *testing.T) {
	l := append(inClasses(-1, 5, 1<<32+1, -1, math.MaxInt, math.MinInt, 1, 257), make([]api.Bidder, 3)...)
	expectClass(t, l, -1, 0, 3)
	expectClass(t, l, 5, 1)
	expectClass(t, l, 1<<32+1, 2)
	expectClass(t, l, math.MaxInt, 4)
	expectClass(t, l, math.MinInt, 5)
	expectClass(t, l, 1, 6)
	expectClass(t, l, 257, 7)
	expectClass(t, l, 0, 8, 9, 10)
	expectClass(t, l, 4)
	long := make([]api.Bidder, 100000)
	long[7].Class, long[8].Class, long[99999].Class = 3, 3, 3
	expectClass(t, long, 3, 7, 8, 99999)
}

// P9.2, P9.3: against the definitions
func TestManyLists(t *testing.T) {
	source := newSource()
	for range 5000 {
		l := someList(source, 12, 6)
		name, class := someName(source, 8), source.IntN(6)
		index := slices.IndexFunc(l, func(b api.Bidder) bool { return b.Name == name })
		expectFind(t, l, name, max(index, 0), index >= 0)
		var want []int
		for i := range l {
			if l[i].Class == class {
				want = append(want, i)
			}
		}
		expectClass(t, l, class, want...)
	}
}

// R3: the results of two calls are memory of their own.
func TestResultsAreNew(t *testing.T) {
	l := inClasses(1, 0, 1)
	roster.Class(l, 1)[0] = 7
	expectClass(t, l, 1, 0, 2)
	_ = append(roster.Class(l, 1)[:1], 8)
	expectClass(t, l, 1, 0, 2)
	roster.Names(l, 7)[1] = "other"
	expectNames(t, l, 7, "b0", "b1", "b2")
}

// R3: the arguments and their spare capacity are not changed.
func TestArgumentsAreNotChanged(t *testing.T) {
	whole, names := list(6), []string{"b2", "b0", "b1", "b9"}
	l := whole[:3]
	roster.Check(l)
	roster.Find(l, "b2")
	roster.Class(l, 1)
	roster.Names(l, 255)
	roster.Members(l, names[:3])
	roster.Members(l, names)
	if !slices.Equal(whole, list(6)) {
		t.Errorf("the bidders became %v", whole)
	}
	if !slices.Equal(names, []string{"b2", "b0", "b1", "b9"}) {
		t.Errorf("the names became %v", names)
	}
}
