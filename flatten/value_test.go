package flatten_test

import (
	"math"
	"slices"
	"testing"

	"saleroom/api"
	"saleroom/flatten"
)

// P14.3: the example of the chapter, and others
func TestValue(t *testing.T) {
	two := []api.Offer{bid(7, 0, 1), bid(5, 1)}
	cases := []struct {
		l    []api.Offer
		b    api.Bundle
		want int64
	}{
		{two, with(1, 1), 7},
		{two, with(1), 5},
		{two, with(4), 5},
		{two, with(0, 1), 7},
		{two, with(), 0},
		{two, with(0, 0, 4, 4, 4, 4), 0},
		{nil, with(1, 1), 0},
		{[]api.Offer{bid(5, 1), bid(7, 0, 1)}, with(1, 1), 7},
		{[]api.Offer{bid(5, 2, 1)}, with(2), 0},
		{[]api.Offer{bid(5, 2, 1)}, with(1, 4), 0},
		{[]api.Offer{bid(5, 2, 1)}, with(2, 1), 5},
		{[]api.Offer{bid(5, 0, 0, 0, 0, 0, 1)}, with(4, 4, 4, 4, 4), 0},
		{[]api.Offer{bid(5)}, with(), 5},
		{[]api.Offer{bid(-5, 1)}, with(1), 0},
		{[]api.Offer{bid(0, 1)}, with(1), 0},
		{[]api.Offer{bid(-5, 1), bid(3, 0, 1)}, with(1, 1), 3},
		{[]api.Offer{bid(-5, 1), bid(3, 0, 1)}, with(1), 0},
		{[]api.Offer{bid(math.MinInt64, 1), bid(math.MaxInt64, 1)}, with(1), math.MaxInt64},
		{[]api.Offer{bid(math.MinInt64, 1)}, with(1), 0},
		{[]api.Offer{bid(9, 1), bid(4, 2)}, with(2), 9},
	}
	for _, c := range cases {
		if got := flatten.Value(c.l, c.b); got != c.want {
			t.Errorf("Value(%v, %v) = %d, want %d", c.l, c.b, got, c.want)
		}
	}
}

// P14.3: bundles that are not valid are compared as they are.
func TestValueOfInvalidBundles(t *testing.T) {
	l := []api.Offer{bid(3, -1), bid(9, 5), bid(20, math.MaxInt), bid(1, math.MinInt, math.MaxInt)}
	cases := []struct {
		b    api.Bundle
		want int64
	}{
		{with(math.MinInt), 0},
		{with(math.MinInt, math.MaxInt), 1},
		{with(-2), 0},
		{with(-1), 3},
		{with(-1, -1), 0},
		{with(4), 3},
		{with(5), 9},
		{with(math.MaxInt - 1), 9},
		{with(math.MaxInt), 20},
		{with(math.MaxInt, -1), 0},
	}
	for _, c := range cases {
		if got := flatten.Value(l, c.b); got != c.want {
			t.Errorf("Value(%v, %v) = %d, want %d", l, c.b, got, c.want)
		}
	}
}

// P14.3: random lists, by the definition; the bidders do not matter.
func TestValueByDefinition(t *testing.T) {
	source := newSource()
	values := map[int64]int{}
	for range 2000 {
		l := someOffers(source, with(2, 2, 1), source.IntN(8))
		alone := of(-1, l...)
		for _, b := range slices.Concat(allWithin(with(2, 2, 2)), []api.Bundle{with(9, 9, 9), with(-1, 2, 2)}) {
			want := valueByDefinition(l, b)
			values[want]++
			if got, other := flatten.Value(l, b), flatten.Value(alone, b); got != want || other != want {
				t.Fatalf("Value(%v, %v) = %d, want %d, and %d for the same bidder", l, b, got, want, other)
			}
		}
	}
	if len(values) != 10 {
		t.Errorf("the values are %v", values)
	}
}
