package flatten_test

import (
	"math/rand/v2"
	"slices"
	"testing"

	"saleroom/api"
	"saleroom/flatten"
)

// P14.2: the example of the chapter, and others
func TestFromTable(t *testing.T) {
	cases := []struct {
		table  []int64
		supply api.Bundle
		want   []api.Offer
	}{
		{[]int64{0, 5, 5, 6}, with(1, 1), []api.Offer{bid(5, 0, 1), bid(5, 1), bid(6, 1, 1)}},
		{[]int64{0, 5, 5, 5}, with(1, 1), []api.Offer{bid(5, 0, 1), bid(5, 1)}},
		{[]int64{0, 5, 0, 5}, with(1, 1), []api.Offer{bid(5, 0, 1)}},
		{[]int64{0, 0, 5, 5}, with(1, 1), []api.Offer{bid(5, 1)}},
		{[]int64{0, 0, 0, 1}, with(1, 1), []api.Offer{bid(1, 1, 1)}},
		{[]int64{0, 5, 7, 7}, with(1, 1), []api.Offer{bid(5, 0, 1), bid(7, 1)}},
		{[]int64{0, 0, 0, 0}, with(1, 1), nil},
		{[]int64{0}, with(), nil},
		{[]int64{0, most}, with(0, 0, 0, 0, 0, 1), []api.Offer{bid(most, 0, 0, 0, 0, 0, 1)}},
		{[]int64{0, most - 1, most}, with(0, 2), []api.Offer{bid(most-1, 0, 1), bid(most, 0, 2)}},
		{[]int64{0, most, most}, with(0, 2), []api.Offer{bid(most, 0, 1)}},
		{[]int64{0, 1, 2, 3, 4}, with(4), []api.Offer{bid(1, 1), bid(2, 2), bid(3, 3), bid(4, 4)}},
		{[]int64{0, 0, 2, 2, 4}, with(4), []api.Offer{bid(2, 2), bid(4, 4)}},
	}
	for _, c := range cases {
		got, err := flatten.FromTable(c.table, c.supply)
		expectOffers(t, "FromTable", got, err, c.want)
	}
}

// P14.2: tables that are not monotone: an offer is greater than those of all smaller bundles, however much smaller they are.
func TestFromTableNotMonotone(t *testing.T) {
	cases := []struct {
		table  []int64
		supply api.Bundle
		want   []api.Offer
	}{
		{[]int64{0, 5, 3}, with(2), []api.Offer{bid(5, 1)}},
		{[]int64{0, 9, 0, 5, 9}, with(4), []api.Offer{bid(9, 1)}},
		{[]int64{0, 9, 0, 5, 10}, with(4), []api.Offer{bid(9, 1), bid(10, 4)}},
		{[]int64{0, 9, 0, 0, 0}, with(4), []api.Offer{bid(9, 1)}},
		{[]int64{0, 7, 5, 6}, with(1, 1), []api.Offer{bid(7, 0, 1), bid(5, 1)}},
		{[]int64{0, 7, 0, 0, 0, 0, 0, 6}, with(1, 1, 1), []api.Offer{bid(7, 0, 0, 1)}},
		{[]int64{0, 0, 0, 0, 7, 0, 0, 6}, with(1, 1, 1), []api.Offer{bid(7, 1)}},
		{[]int64{0, 0, 7, 0, 0, 0, 0, 8}, with(1, 1, 1), []api.Offer{bid(7, 0, 1), bid(8, 1, 1, 1)}},
		{[]int64{0, 0, 7, 0, 0, 8, 0, 0}, with(1, 1, 1), []api.Offer{bid(7, 0, 1), bid(8, 1, 0, 1)}},
	}
	for _, c := range cases {
		got, err := flatten.FromTable(c.table, c.supply)
		expectOffers(t, "FromTable", got, err, c.want)
	}
}

// badTable returns a table of n values, with one that is out of range if n is not 0.
func badTable(n int) []int64 {
	table := make([]int64, n)
	if n > 0 {
		table[n-1] = -1
	}
	return table
}

// P14.2: bundles that are no supplies, before all errors of the table
func TestFromTableWithoutSupply(t *testing.T) {
	for _, supply := range append(badBundles(), noSupplies...) {
		for _, n := range []int{0, 1, 2, 4, 1024, 1080, 1125, 15625} {
			for _, table := range [][]int64{make([]int64, n), badTable(n)} {
				got, err := flatten.FromTable(table, supply)
				expectNoOffers(t, "FromTable without a supply", got, err, api.ErrRange)
			}
		}
	}
}

// P14.2: tables with too few or too many values, before all errors of a value
func TestFromTableOfOtherLengths(t *testing.T) {
	for _, supply := range supplies {
		count := len(allWithin(supply))
		for _, n := range []int{0, 1, count - 1, count, count + 1, 2 * count, 5000} {
			want := api.ErrRange
			if n < count {
				want = api.ErrShort
			} else if n > count {
				want = api.ErrLong
			}
			got, err := flatten.FromTable(badTable(n), supply)
			expectNoOffers(t, "FromTable", got, err, want)
			got, err = flatten.FromTable(make([]int64, n), supply)
			if n == count {
				expectOffers(t, "FromTable", got, err, nil)
			} else {
				expectNoOffers(t, "FromTable", got, err, want)
			}
		}
	}
}

// P14.2: values out of range at each place, before a list that is too long
func TestFromTableOfOtherValues(t *testing.T) {
	for _, supply := range supplies {
		good := rising(len(allWithin(supply)), longest)
		long := rising(len(good), len(good)-1)
		for i := range good {
			values := []int64{-1, -most, most + 1}
			for _, n := range wild {
				values = append(values, int64(n))
			}
			if i == 0 {
				values = append(values, 1, 2, most)
			}
			for _, value := range values {
				for _, table := range [][]int64{slices.Clone(good), slices.Clone(long)} {
					table[i] = value
					got, err := flatten.FromTable(table, supply)
					expectNoOffers(t, "FromTable with a value out of range", got, err, api.ErrRange)
				}
			}
		}
	}
}

// rising returns a table of n values whose minimal list has the given number of offers, or one for each bundle but the empty
// one if there are fewer.
func rising(n, offers int) []int64 {
	table := make([]int64, n)
	for i := range min(n, offers+1) {
		table[i] = int64(i)
	}
	return table
}

// P14.2: lists with exactly 40 offers, and with more
func TestFromTableNumberOfOffers(t *testing.T) {
	for _, supply := range supplies {
		count := len(allWithin(supply))
		for _, offers := range []int{0, 1, longest - 1, longest, longest + 1, longest + 2, 100, packages - 1} {
			if offers > count-1 {
				continue
			}
			got, err := flatten.FromTable(rising(count, offers), supply)
			if offers > longest {
				expectNoOffers(t, "FromTable of a long list", got, err, api.ErrLong)
			} else {
				expectOffers(t, "FromTable", got, err, minimalByDefinition(rising(count, offers), supply))
			}
			if err == api.OK && len(got) != offers {
				t.Errorf("the list has %d offers, not %d", len(got), offers)
			}
		}
	}
}

// someTable returns a random table of a supply, each value of which is 0 or less than a bound.
func someTable(source *rand.Rand, supply api.Bundle, bound int64) []int64 {
	table := make([]int64, len(allWithin(supply)))
	part := 1 + source.IntN(5)
	for i := range table {
		if i > 0 && source.IntN(part) == 0 {
			table[i] = source.Int64N(bound)
		}
	}
	return table
}

// P14.2: random tables, by the definition of the minimal list
func TestFromTableByDefinition(t *testing.T) {
	source := newSource()
	lengths := map[int]int{}
	for i := range 4000 {
		supply := supplies[i%(len(supplies)-3)]
		table := someTable(source, supply, []int64{2, 5, 50, most + 1}[source.IntN(4)])
		want := minimalByDefinition(table, supply)
		lengths[len(want)]++
		got, err := flatten.FromTable(table, supply)
		if len(want) > longest {
			expectNoOffers(t, "a long list", got, err, api.ErrLong)
		} else {
			expectOffers(t, "a random table", got, err, want)
		}
	}
	if len(lengths) < 15 || lengths[0] > 1500 {
		t.Errorf("the lengths %v are too much alike", lengths)
	}
}

// P14.2: tables with as many values as possible
func TestFromLargeTable(t *testing.T) {
	source := newSource()
	for range 20 {
		for _, supply := range supplies[len(supplies)-3:] {
			table := make([]int64, len(allWithin(supply)))
			for range 60 {
				table[1+source.IntN(len(table)-1)] = source.Int64N(most + 1)
			}
			want := minimalByDefinition(table, supply)
			got, err := flatten.FromTable(table, supply)
			if len(want) > longest {
				expectNoOffers(t, "a long list", got, err, api.ErrLong)
			} else {
				expectOffers(t, "a large table", got, err, want)
			}
		}
	}
}
