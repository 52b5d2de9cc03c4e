package roster_test

import (
	"math"
	"slices"
	"testing"

	"saleroom/api"
	"saleroom/roster"
)

// expectNames expects the names from Names(l, members).
func expectNames(t *testing.T, l []api.Bidder, members int, want ...string) {
	t.Helper()
	if got := roster.Names(l, members); !slices.Equal(got, want) {
		t.Errorf("Names(%v, %b) = %q, want %q", l, members, got, want)
	}
}

// P9.4: the example of the chapter, and others
func TestNames(t *testing.T) {
	l := example()
	expectNames(t, l, 5, "ann", "cyd")
	expectNames(t, l, 0)
	expectNames(t, l, 1, "ann")
	expectNames(t, l, 2, "bob")
	expectNames(t, l, 3, "ann", "bob")
	expectNames(t, l, 4, "cyd")
	expectNames(t, l, 6, "bob", "cyd")
	expectNames(t, l, 7, "ann", "bob", "cyd")
	expectNames(t, named("cyd", "ann", "bob"), 5, "cyd", "bob")
	expectNames(t, list(bidders), 255, "b0", "b1", "b2", "b3", "b4", "b5", "b6", "b7")
	expectNames(t, list(bidders), 129, "b0", "b7")
}

// P9.4: every set of the bidders of a list, with the bits of bidders that it does not have
func TestNamesOfEverySet(t *testing.T) {
	for n := range bidders + 3 {
		l := list(n)
		for members := range 1 << (bidders + 2) {
			var want []string
			for i, bit := 0, 1; i < min(n, bidders); i, bit = i+1, bit*2 {
				if members/bit%2 == 1 {
					want = append(want, l[i].Name)
				}
			}
			expectNames(t, l, members, want...)
		}
	}
}

// P9.4: bits beyond the list and beyond the first eight bidders are ignored, the sign among them.
func TestNamesIgnoresOtherBits(t *testing.T) {
	for _, other := range []int{1 << 8, 1 << 9, 1 << 31, 1 << 32, 1 << 62, math.MinInt, -256, math.MaxInt &^ 255} {
		expectNames(t, example(), other)
		expectNames(t, example(), other|5, "ann", "cyd")
		expectNames(t, list(bidders), other)
		expectNames(t, list(bidders+1), other|128, "b7")
		expectNames(t, list(100), other|3, "b0", "b1")
		expectNames(t, nil, other|1)
	}
	expectNames(t, example(), 8|2, "bob")
	expectNames(t, example(), -1, "ann", "bob", "cyd")
	expectNames(t, example(), -2, "bob", "cyd")
	expectNames(t, example(), math.MaxInt, "ann", "bob", "cyd")
	expectNames(t, list(100), -1, "b0", "b1", "b2", "b3", "b4", "b5", "b6", "b7")
	expectNames(t, nil, -1)
	expectNames(t, []api.Bidder{}, 255)
}

// P9.4: the list need not be valid.
func TestNamesOfBadLists(t *testing.T) {
	l := named("ann", "", "ann", "A", "abcdefghijklmnop")
	expectNames(t, l, 31, "ann", "", "ann", "A", "abcdefghijklmnop")
	expectNames(t, l, 6, "", "ann")
	expectNames(t, make([]api.Bidder, 2), 3, "", "")
}

// expectMembers expects the set and the error from Members(l, names).
func expectMembers(t *testing.T, l []api.Bidder, names []string, want int, e api.Errno) {
	t.Helper()
	if got, err := roster.Members(l, names); got != want || err != e {
		t.Errorf("Members(%v, %q) = %d, %v, want %d, %v", l, names, got, err, want, e)
	}
}

// P9.5: the example of the chapter, and others
func TestMembers(t *testing.T) {
	l := example()
	expectMembers(t, l, []string{"cyd", "ann"}, 5, api.OK)
	expectMembers(t, l, []string{"ann", "cyd"}, 5, api.OK)
	expectMembers(t, l, nil, 0, api.OK)
	expectMembers(t, l, []string{}, 0, api.OK)
	expectMembers(t, l, []string{"ann"}, 1, api.OK)
	expectMembers(t, l, []string{"bob"}, 2, api.OK)
	expectMembers(t, l, []string{"cyd"}, 4, api.OK)
	expectMembers(t, l, []string{"bob", "cyd", "ann"}, 7, api.OK)
	expectMembers(t, nil, nil, 0, api.OK)
	expectMembers(t, list(bidders), []string{"b7"}, 128, api.OK)
	expectMembers(t, list(bidders), []string{"b7", "b6", "b5", "b4", "b3", "b2", "b1", "b0"}, 255, api.OK)
}

// P9.5, R2: the errors, and the set 0 with them
func TestMembersErrors(t *testing.T) {
	l := example()
	for _, name := range append([]string{"dan", "an", "annn", "Ann", "ann ", "b0"}, badNames...) {
		expectMembers(t, l, []string{name}, 0, api.ErrNone)
		expectMembers(t, l, []string{"bob", "ann", name}, 0, api.ErrNone)
		expectMembers(t, l, []string{name, "bob"}, 0, api.ErrNone)
		expectMembers(t, nil, []string{name}, 0, api.ErrNone)
	}
	expectMembers(t, l, []string{"ann", "ann"}, 0, api.ErrExists)
	expectMembers(t, l, []string{"cyd", "bob", "cyd"}, 0, api.ErrExists)
	expectMembers(t, l, []string{"cyd", "bob", "ann", "bob"}, 0, api.ErrExists)
	expectMembers(t, list(bidders), []string{"b7", "b7"}, 0, api.ErrExists)
}

// P9.5: the first name with an error decides.
func TestMembersOrder(t *testing.T) {
	l := example()
	expectMembers(t, l, []string{"ann", "dan", "ann"}, 0, api.ErrNone)
	expectMembers(t, l, []string{"ann", "ann", "dan"}, 0, api.ErrExists)
	expectMembers(t, l, []string{"dan", "dan"}, 0, api.ErrNone)
	many := slices.Repeat([]string{"bob"}, 100000)
	expectMembers(t, l, many, 0, api.ErrExists)
	many[1] = "dan"
	expectMembers(t, l, many, 0, api.ErrNone)
}

// P9.5: ErrLong comes before everything that is wrong with the names.
func TestMembersOfLongLists(t *testing.T) {
	for _, n := range []int{bidders + 1, bidders + 2, 64, 65, 100000} {
		for _, names := range [][]string{nil, {}, {"b0"}, {"b8"}, {"dan"}, {"b0", "b0"}, {"b1", "b0"}} {
			expectMembers(t, list(n), names, 0, api.ErrLong)
		}
		expectMembers(t, make([]api.Bidder, n), nil, 0, api.ErrLong)
	}
}

// P9.5: the list need not be valid; a name always means the first bidder that has it.
func TestMembersOfBadLists(t *testing.T) {
	l := named("bob", "ann", "bob", "A", "", "ann", "abcdefghijklmnop", "")
	expectMembers(t, l, []string{"bob"}, 1, api.OK)
	expectMembers(t, l, []string{"ann", "bob"}, 3, api.OK)
	expectMembers(t, l, []string{"", "A"}, 24, api.OK)
	expectMembers(t, l, []string{"abcdefghijklmnop"}, 64, api.OK)
	expectMembers(t, l, []string{"bob", "bob"}, 0, api.ErrExists)
	expectMembers(t, l, []string{"", "ann", ""}, 0, api.ErrExists)
	expectMembers(t, l, []string{"", "ann", "cyd"}, 0, api.ErrNone)
}

// model returns what Members promises for names, from the indices that Find returns.
func model(l []api.Bidder, names []string) (int, api.Errno) {
	if len(l) > bidders {
		return 0, api.ErrLong
	}
	set := map[int]bool{}
	sum := 0
	for _, name := range names {
		i, found := roster.Find(l, name)
		if !found {
			return 0, api.ErrNone
		}
		if set[i] {
			return 0, api.ErrExists
		}
		set[i] = true
		sum += []int{1, 2, 4, 8, 16, 32, 64, 128}[i]
	}
	return sum, api.OK
}

// P9.5: against the definition
func TestManyMembers(t *testing.T) {
	source := newSource()
	seen := map[api.Errno]int{}
	for range 20000 {
		l, names := someList(source, bidders+1, 10), someNames(source, 4, 11)
		want, e := model(l, names)
		expectMembers(t, l, names, want, e)
		seen[e]++
	}
	for _, e := range []api.Errno{api.OK, api.ErrLong, api.ErrNone, api.ErrExists} {
		if seen[e] < 100 {
			t.Errorf("only %d of the lists have %v", seen[e], e)
		}
	}
}

// expectSets expects the sets that Sets(n) yields.
func expectSets(t *testing.T, n int, want ...int) {
	t.Helper()
	if got := slices.Collect(roster.Sets(n)); !slices.Equal(got, want) {
		t.Errorf("Sets(%d) yields %v, want %v", n, got, want)
	}
}

// P9.6: the example of the chapter, and every number of bidders
func TestSets(t *testing.T) {
	expectSets(t, 1, 0, 1)
	expectSets(t, 0, 0)
	expectSets(t, 2, 0, 1, 2, 3)
	expectSets(t, 3, 0, 1, 2, 3, 4, 5, 6, 7)
	count := 1
	for n := range bidders + 1 {
		var want []int
		for set := range count {
			want = append(want, set)
		}
		expectSets(t, n, want...)
		count *= 2
	}
}

// P9.6: numbers that are no numbers of bidders
func TestSetsOfBadNumbers(t *testing.T) {
	for _, n := range append([]int{bidders + 1, bidders + 2, 16, 31, 32, 63, 64, 65, 256, 257, -63, -64}, wild...) {
		for set := range roster.Sets(n) {
			t.Fatalf("Sets(%d) yields %d", n, set)
		}
	}
}

// P9.6: the caller stops after each number of sets, and nothing is yielded after that.
func TestSetsStops(t *testing.T) {
	for n := range 4 {
		all := slices.Collect(roster.Sets(n))
		for stop := 1; stop <= len(all); stop++ {
			var got []int
			roster.Sets(n)(func(set int) bool {
				got = append(got, set)
				return len(got) < stop
			})
			if !slices.Equal(got, all[:stop]) {
				t.Errorf("Sets(%d) stopped after %d sets yields %v", n, stop, got)
			}
		}
	}
}

// R7: the same sequence yields the same sets again, also within itself and when it was left.
func TestSetsAgain(t *testing.T) {
	sequence := roster.Sets(2)
	for set := range sequence {
		if set == 2 {
			break
		}
	}
	var got []int
	for set := range sequence {
		if nested := slices.Collect(sequence); !slices.Equal(nested, []int{0, 1, 2, 3}) {
			t.Fatalf("the sequence within itself yields %v", nested)
		}
		got = append(got, set)
	}
	if !slices.Equal(got, []int{0, 1, 2, 3}) {
		t.Errorf("the sequence yields %v", got)
	}
}
