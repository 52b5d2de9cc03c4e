package roster_test

import (
	"slices"
	"testing"

	"saleroom/api"
	"saleroom/roster"
)

// P9.7: Sets yields every subset of the n bidders exactly once.
func TestEverySubsetOnce(t *testing.T) {
	for n := range bidders + 1 {
		times := map[[bidders]bool]int{}
		for set := range roster.Sets(n) {
			var subset [bidders]bool
			for i := range subset {
				subset[i] = set&(1<<i) != 0
			}
			if set>>n != 0 || slices.Contains(subset[n:], true) {
				t.Fatalf("Sets(%d) yields %d", n, set)
			}
			times[subset]++
		}
		for subset, count := range times {
			if count != 1 {
				t.Errorf("the subset %v is yielded %d times", subset, count)
			}
		}
		if len(times) != 1<<n {
			t.Errorf("Sets(%d) yields %d subsets", n, len(times))
		}
	}
}

// P9.7: Members of Names returns the set, for every set of the bidders of a valid list.
func TestMembersOfNames(t *testing.T) {
	source := newSource()
	lists := [][]api.Bidder{example()}
	for n := 1; n <= bidders; n++ {
		lists = append(lists, list(n))
	}
	for len(lists) < 200 {
		if l := someList(source, bidders, 12); roster.Check(l) == api.OK {
			lists = append(lists, l)
		}
	}
	for _, l := range lists {
		sets := 0
		for set := range roster.Sets(len(l)) {
			names := roster.Names(l, set)
			expectMembers(t, l, names, set, api.OK)
			slices.Reverse(names)
			expectMembers(t, l, names, set, api.OK)
			sets++
		}
		if sets != 1<<len(l) {
			t.Errorf("there are %d sets of %d bidders", sets, len(l))
		}
	}
}
