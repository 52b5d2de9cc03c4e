package bundle_test

import (
	"math"
	"testing"

	"saleroom/api"
	"saleroom/bundle"
)

// P7.1: the example of the chapter, and every valid bundle
func TestCheck(t *testing.T) {
	if e := bundle.Check(with(5)); e != api.ErrRange {
		t.Errorf("Check of a bundle with the quantity 5 is %v", e)
	}
	eachValid(func(b api.Bundle) {
		if e := bundle.Check(b); e != api.OK {
			t.Fatalf("Check(%v) is %v", b, e)
		}
	})
}

// P7.1
func TestCheckErrors(t *testing.T) {
	eachInvalid(func(b api.Bundle) {
		if e := bundle.Check(b); e != api.ErrRange {
			t.Fatalf("Check(%v) is %v", b, e)
		}
	})
}

// expectSum expects that c is the sum of a and b, by Add in both orders and by Sub.
func expectSum(t *testing.T, a, b, c api.Bundle) {
	t.Helper()
	if got := bundle.Add(a, b); got != c {
		t.Errorf("Add(%v, %v) = %v, want %v", a, b, got, c)
	}
	if got := bundle.Add(b, a); got != c {
		t.Errorf("Add(%v, %v) = %v, want %v", b, a, got, c)
	}
	if got := bundle.Sub(c, a); got != b {
		t.Errorf("Sub(%v, %v) = %v, want %v", c, a, got, b)
	}
	if got := bundle.Sub(c, b); got != a {
		t.Errorf("Sub(%v, %v) = %v, want %v", c, b, got, a)
	}
}

// P7.2, P7.3
func TestAddAndSub(t *testing.T) {
	expectSum(t, with(), with(), with())
	expectSum(t, with(1, 2, 3, 4, 0, 1), with(), with(1, 2, 3, 4, 0, 1))
	expectSum(t, with(1, 2, 3, 4, 0, 1), with(3, 1, 4, 0, 2, 0), with(4, 3, 7, 4, 2, 1))
	expectSum(t, with(10, 200, 3000, 40000, 500000, 6), with(5, 6, 7, 8, 9, 10), with(15, 206, 3007, 40008, 500009, 16))
	expectSum(t, with(-1, 2, -3, 4, -5, 6), with(1, -2, -3, -4, 5, 7), with(0, 0, -6, 0, 0, 13))
	expectSum(t, same(units), same(units), same(8))
	expectSum(t, same(moderate), same(0), same(moderate))
	expectSum(t, same(-moderate), same(moderate), same(0))
}

// P7.2, P7.3: at the limits of moderate bundles
func TestAddAndSubAtTheLimits(t *testing.T) {
	top, bottom := same(moderate), same(-moderate)
	if got := bundle.Add(top, top); got != same(2*moderate) {
		t.Errorf("Add of the greatest moderate bundles is %v", got)
	}
	if got := bundle.Add(bottom, bottom); got != same(-2*moderate) {
		t.Errorf("Add of the least moderate bundles is %v", got)
	}
	if got := bundle.Sub(top, bottom); got != same(2*moderate) {
		t.Errorf("Sub of the least moderate bundle from the greatest is %v", got)
	}
	if got := bundle.Sub(bottom, top); got != same(-2*moderate) {
		t.Errorf("Sub of the greatest moderate bundle from the least is %v", got)
	}
}

// P7.3: quantities can be negative.
func TestSubBelowZero(t *testing.T) {
	if got := bundle.Sub(with(), with(1, 2, 3, 4, 0, 1)); got != with(-1, -2, -3, -4, 0, -1) {
		t.Errorf("Sub from the empty bundle is %v", got)
	}
	if got := bundle.Sub(with(1, 3), with(2, 1)); got != with(-1, 2) {
		t.Errorf("Sub(1 3, 2 1) is %v", got)
	}
}

// P7.2, P7.3, P7.7: random moderate bundles
func TestArithmeticOfManyBundles(t *testing.T) {
	source := newSource()
	for range 20000 {
		a, b := someBundle(source, -moderate, moderate), someBundle(source, -moderate, moderate)
		sum, difference := bundle.Add(a, b), bundle.Sub(a, b)
		total := 0
		for k := range a {
			if sum[k] != a[k]+b[k] || difference[k] != a[k]-b[k] {
				t.Fatalf("for %v and %v: Add is %v, Sub is %v", a, b, sum, difference)
			}
			total += a[k]
		}
		if got := bundle.Total(a); got != total {
			t.Fatalf("Total(%v) = %d, want %d", a, got, total)
		}
	}
}

// expectMeetAndJoin expects the results of Meet and Join for a and b in both orders.
func expectMeetAndJoin(t *testing.T, a, b, meet, join api.Bundle) {
	t.Helper()
	for range 2 {
		if got := bundle.Meet(a, b); got != meet {
			t.Fatalf("Meet(%v, %v) = %v, want %v", a, b, got, meet)
		}
		if got := bundle.Join(a, b); got != join {
			t.Fatalf("Join(%v, %v) = %v, want %v", a, b, got, join)
		}
		a, b = b, a
	}
}

// P7.4, P7.5
func TestMeetAndJoin(t *testing.T) {
	expectMeetAndJoin(t, with(), with(), with(), with())
	expectMeetAndJoin(t, with(1, 2), with(2, 1), with(1, 1), with(2, 2))
	expectMeetAndJoin(t, with(1, 2, 3, 4, 0, 1), with(3, 2, 1, 0, 4, 2), with(1, 2, 1, 0, 0, 1), with(3, 2, 3, 4, 4, 2))
	expectMeetAndJoin(t, with(1, 2, 3, 4, 0, 1), same(0), same(0), with(1, 2, 3, 4, 0, 1))
	expectMeetAndJoin(t, with(-1, 2, -3), with(1, -2, -4), with(-1, -2, -4), with(1, 2, -3))
}

// P7.4, P7.5: for all bundles, of which differences can exceed an integer
func TestMeetAndJoinOfAnyBundles(t *testing.T) {
	const most, least = math.MaxInt, math.MinInt
	expectMeetAndJoin(t, same(most), same(least), same(least), same(most))
	expectMeetAndJoin(t, with(most, least, most, least), with(least, most, most, least), with(least, least, most, least), with(most, most, most, least))
	source := newSource()
	for range 20000 {
		a, b := anyBundle(source), anyBundle(source)
		meet, join := a, a
		for k := range b {
			if b[k] < a[k] {
				meet[k] = b[k]
			} else {
				join[k] = b[k]
			}
		}
		expectMeetAndJoin(t, a, b, meet, join)
	}
}

// P7.6: the examples of the chapter, and bundles that differ at one product
func TestWithin(t *testing.T) {
	if !bundle.Within(with(1, 2), with(2, 2)) {
		t.Error("1, 2 is not within 2, 2")
	}
	if bundle.Within(with(3, 0), with(2, 2)) {
		t.Error("3, 0 is within 2, 2")
	}
	for _, b := range []api.Bundle{same(0), same(2), with(1, 2, 3, 4, 0, 1), same(-7), same(math.MaxInt - 1), same(math.MinInt)} {
		if !bundle.Within(b, b) {
			t.Errorf("%v is not within itself", b)
		}
		for k := range b {
			more := b
			more[k]++
			if !bundle.Within(b, more) || bundle.Within(more, b) {
				t.Errorf("Within(%v, %v) or its reverse is wrong", b, more)
			}
		}
	}
}

// P7.6: a greater quantity of one product is not outweighed by smaller ones of the others.
func TestWithinOfOtherProducts(t *testing.T) {
	for k := range api.MaxProducts {
		a, b := same(0), same(units)
		a[k], b[k] = 1, 0
		if bundle.Within(a, b) || bundle.Within(b, a) {
			t.Errorf("%v and %v are within each other", a, b)
		}
	}
}

// P7.6: for all bundles, of which differences can exceed an integer
func TestWithinOfAnyBundles(t *testing.T) {
	if !bundle.Within(same(math.MinInt), same(math.MaxInt)) || bundle.Within(same(math.MaxInt), same(math.MinInt)) {
		t.Error("Within is wrong for extreme bundles")
	}
	source := newSource()
	for range 20000 {
		a, b := anyBundle(source), anyBundle(source)
		for k := range b {
			if source.IntN(3) > 0 {
				b[k] = a[k]
			}
		}
		want := true
		for k := range b {
			want = want && a[k] <= b[k]
		}
		if got := bundle.Within(a, b); got != want {
			t.Fatalf("Within(%v, %v) is %v", a, b, got)
		}
	}
}

// P7.7: the example of the chapter, and moderate bundles
func TestTotal(t *testing.T) {
	cases := []struct {
		b    api.Bundle
		want int
	}{
		{with(1, 2), 3},
		{with(), 0},
		{with(0, 0, 0, 0, 0, 1), 1},
		{with(1, 20, 300, 4000, 50000, 600000), 654321},
		{same(units), 24},
		{with(-1, 2, -3, 4, -5, 6), 3},
		{with(0, 0, -3), -3},
		{same(moderate), 6000000},
		{same(-moderate), -6000000},
	}
	for _, c := range cases {
		if got := bundle.Total(c.b); got != c.want {
			t.Errorf("Total(%v) = %d, want %d", c.b, got, c.want)
		}
	}
}

// P7.8: the example of the chapter, negative prices and quantities, and the limits
func TestCost(t *testing.T) {
	cases := []struct {
		p    api.Prices
		b    api.Bundle
		want int64
	}{
		{api.Prices{10, 3}, with(1, 2), 16},
		{api.Prices{}, same(units), 0},
		{samePrice(moderatePrice), with(), 0},
		{api.Prices{1, 10, 100, 1000, 10000, 100000}, with(1, 2, 3, 4, 0, 4), 404321},
		{api.Prices{0, 0, 0, 0, 0, 7}, with(1, 1, 1, 1, 1, 3), 21},
		{api.Prices{-10, 3}, with(1, 2), -4},
		{api.Prices{10, 3}, with(-1, -2), -16},
		{api.Prices{-10, -3}, with(-1, 2), 4},
		{samePrice(api.MaxValue), same(units), 24000000},
		{samePrice(moderatePrice), same(moderate), 6000000000000000},
		{samePrice(-moderatePrice), same(moderate), -6000000000000000},
		{samePrice(moderatePrice), same(-moderate), -6000000000000000},
		{samePrice(-moderatePrice), same(-moderate), 6000000000000000},
		{api.Prices{moderatePrice, 1}, with(moderate, 1), 1000000000000001},
	}
	for _, c := range cases {
		if got := bundle.Cost(c.p, c.b); got != c.want {
			t.Errorf("Cost(%v, %v) = %d, want %d", c.p, c.b, got, c.want)
		}
	}
}

// P7.8: random moderate prices and bundles
func TestManyCosts(t *testing.T) {
	source := newSource()
	for range 20000 {
		b := someBundle(source, -moderate, moderate)
		var p api.Prices
		var want int64
		for k := range p {
			p[k] = source.Int64N(2*moderatePrice+1) - moderatePrice
			want += p[k] * int64(b[k])
		}
		if got := bundle.Cost(p, b); got != want {
			t.Fatalf("Cost(%v, %v) = %d, want %d", p, b, got, want)
		}
	}
}

// P7.13: the example of the chapter, and each product as the first one whose quantities differ
func TestCompare(t *testing.T) {
	if got := bundle.Compare(with(0, 4), with(1, 0)); got != -1 {
		t.Errorf("Compare(0 4, 1 0) = %d", got)
	}
	if got := bundle.Compare(with(1, 0), with(0, 4)); got != 1 {
		t.Errorf("Compare(1 0, 0 4) = %d", got)
	}
	for _, quantity := range []int{0, 1, units, -1, math.MaxInt - 1, math.MinInt} {
		for k := range api.MaxProducts {
			a, b := same(quantity), same(quantity)
			if got := bundle.Compare(a, b); got != 0 {
				t.Errorf("Compare(%v, %v) = %d", a, b, got)
			}
			b[k]++
			for after := k + 1; after < len(b); after++ {
				a[after], b[after] = units, 0
			}
			if less, greater := bundle.Compare(a, b), bundle.Compare(b, a); less != -1 || greater != 1 {
				t.Errorf("Compare(%v, %v) = %d, and %d in the other order", a, b, less, greater)
			}
		}
	}
}

// compareByDefinition follows the words of P7.13.
func compareByDefinition(a, b api.Bundle) int {
	for k := range a {
		switch {
		case a[k] < b[k]:
			return -1
		case a[k] > b[k]:
			return 1
		}
	}
	return 0
}

// P7.13: for all bundles, of which differences can exceed an integer
func TestCompareOfAnyBundles(t *testing.T) {
	if less, greater := bundle.Compare(same(math.MinInt), same(math.MaxInt)), bundle.Compare(same(math.MaxInt), same(math.MinInt)); less != -1 || greater != 1 {
		t.Errorf("Compare of extreme bundles is %d, and %d in the other order", less, greater)
	}
	source := newSource()
	for range 20000 {
		a, b := anyBundle(source), anyBundle(source)
		copy(b[:source.IntN(len(b)+1)], a[:])
		if got, want := bundle.Compare(a, b), compareByDefinition(a, b); got != want {
			t.Fatalf("Compare(%v, %v) = %d, want %d", a, b, got, want)
		}
	}
}

// R1: bundles and prices that are not moderate
func TestImmoderate(t *testing.T) {
	source := newSource()
	for range 5000 {
		a, b := anyBundle(source), anyBundle(source)
		p := samePrice([]int64{math.MaxInt64, math.MinInt64, -1, 0}[source.IntN(4)])
		bundle.Add(a, b)
		bundle.Sub(a, b)
		bundle.Total(a)
		bundle.Cost(p, a)
	}
}
