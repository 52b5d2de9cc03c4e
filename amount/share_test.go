package amount_test

import (
	"math"
	"math/big"
	"math/rand/v2"
	"slices"
	"testing"

	"saleroom/amount"
	"saleroom/api"
)

// P5.5: the examples of the chapter, and shares with equal remainders, without remainders, and with weights of 0
func TestShare(t *testing.T) {
	cases := []struct {
		total   int64
		weights []int64
		want    []int64
	}{
		{10, []int64{1, 1, 1}, []int64{4, 3, 3}},
		{7, []int64{2, 1}, []int64{5, 2}},
		{7, []int64{1, 2}, []int64{2, 5}},
		{8, []int64{2, 1}, []int64{5, 3}},
		{9, []int64{2, 1}, []int64{6, 3}},
		{0, []int64{1, 2, 3}, []int64{0, 0, 0}},
		{0, []int64{most}, []int64{0}},
		{5, []int64{1}, []int64{5}},
		{most, []int64{1}, []int64{most}},
		{most, []int64{most}, []int64{most}},
		{1, []int64{1, 1}, []int64{1, 0}},
		{1, []int64{1, 1, 2}, []int64{0, 0, 1}},
		{1, []int64{1, 2, 2}, []int64{0, 1, 0}},
		{2, []int64{1, 2, 2}, []int64{0, 1, 1}},
		{3, []int64{1, 2, 2}, []int64{1, 1, 1}},
		{4, []int64{1, 2, 2}, []int64{1, 2, 1}},
		{11, []int64{1, 1, 1}, []int64{4, 4, 3}},
		{2, []int64{1, 1, 1, 1, 1}, []int64{1, 1, 0, 0, 0}},
		{1, []int64{0, 1, 0}, []int64{0, 1, 0}},
		{5, []int64{0, 1, 0, 1}, []int64{0, 3, 0, 2}},
		{5, []int64{0, 0, 0, 9}, []int64{0, 0, 0, 5}},
		{10, []int64{7, 0, 3}, []int64{7, 0, 3}},
		{100, []int64{1, 1, 1, 1, 1, 1, 1}, []int64{15, 15, 14, 14, 14, 14, 14}},
		{1, []int64{1, most}, []int64{0, 1}},
		{most, []int64{1, most}, []int64{1, 999999}},
		{most, []int64{most, most, most}, []int64{333334, 333333, 333333}},
		{most, []int64{most, most - 1}, []int64{500000, 500000}},
	}
	for _, c := range cases {
		if got, e := amount.Share(c.total, c.weights); e != api.OK || !slices.Equal(got, c.want) {
			t.Errorf("Share(%d, %v) = %v, %v, want %v", c.total, c.weights, got, e, c.want)
		}
	}
}

// P5.5: the errors and their order
func TestShareErrors(t *testing.T) {
	cases := []struct {
		total   int64
		weights []int64
		want    api.Errno
	}{
		{-1, []int64{1}, api.ErrRange},
		{most + 1, []int64{1}, api.ErrRange},
		{math.MaxInt64, []int64{1}, api.ErrRange},
		{math.MinInt64, []int64{1}, api.ErrRange},
		{-1, nil, api.ErrRange},
		{most + 1, []int64{0}, api.ErrRange},
		{5, []int64{-1}, api.ErrRange},
		{5, []int64{most + 1}, api.ErrRange},
		{5, []int64{1, -1}, api.ErrRange},
		{5, []int64{3, -1, 2}, api.ErrRange},
		{5, []int64{1, 1, most + 1}, api.ErrRange},
		{5, []int64{0, 0, -1}, api.ErrRange},
		{5, []int64{0, math.MinInt64, math.MinInt64}, api.ErrRange},
		{5, []int64{math.MaxInt64, math.MaxInt64, 2}, api.ErrRange},
		{0, []int64{-1}, api.ErrRange},
		{5, nil, api.ErrNone},
		{5, []int64{}, api.ErrNone},
		{0, nil, api.ErrNone},
		{most, nil, api.ErrNone},
		{5, []int64{0}, api.ErrNone},
		{0, []int64{0, 0, 0}, api.ErrNone},
		{most, []int64{0, 0}, api.ErrNone},
	}
	for _, c := range cases {
		if got, e := amount.Share(c.total, c.weights); e != c.want || len(got) != 0 {
			t.Errorf("Share(%d, %v) = %v, %v, want %v", c.total, c.weights, got, e, c.want)
		}
	}
}

// shareByDefinition follows the words of P5.5: it looks for the greatest remainder among the parts without a unit, again and again.
func shareByDefinition(total int64, weights []int64) []int64 {
	sum := new(big.Int)
	for _, weight := range weights {
		sum.Add(sum, big.NewInt(weight))
	}
	missing := total
	var parts []int64
	var remainders []*big.Int
	for _, weight := range weights {
		product := new(big.Int).Mul(big.NewInt(total), big.NewInt(weight))
		part, remainder := new(big.Int).QuoRem(product, sum, new(big.Int))
		parts = append(parts, part.Int64())
		remainders = append(remainders, remainder)
		missing -= part.Int64()
	}
	for ; missing > 0; missing-- {
		best := 0
		for i := range remainders {
			if remainders[i].Cmp(remainders[best]) > 0 {
				best = i
			}
		}
		parts[best]++
		remainders[best].SetInt64(-1)
	}
	return parts
}

// someWeights returns random weights, which are not all 0. Small ones give many equal remainders.
func someWeights(source *rand.Rand, length int) []int64 {
	weights := make([]int64, length)
	limit := int64(1) << source.IntN(20)
	for i := range weights {
		weights[i] = source.Int64N(min(limit, most) + 1)
	}
	weights[source.IntN(length)] = 1 + source.Int64N(most)>>source.IntN(20)
	return weights
}

// P5.5: against the definition
func TestShareOfManyTotals(t *testing.T) {
	source := newSource()
	for range 5000 {
		total := source.Int64N(most+1) >> source.IntN(20)
		weights := someWeights(source, source.IntN(12)+1)
		got, e := amount.Share(total, weights)
		if want := shareByDefinition(total, weights); e != api.OK || !slices.Equal(got, want) {
			t.Fatalf("Share(%d, %v) = %v, %v, want %v", total, weights, got, e, want)
		}
	}
}

// P5.5: all totals up to 12 and all weights up to 4 of three parts
func TestShareOfSmallNumbers(t *testing.T) {
	for total := range int64(13) {
		for code := int64(1); code < 125; code++ {
			weights := []int64{code % 5, code / 5 % 5, code / 25}
			got, e := amount.Share(total, weights)
			if want := shareByDefinition(total, weights); e != api.OK || !slices.Equal(got, want) {
				t.Fatalf("Share(%d, %v) = %v, %v, want %v", total, weights, got, e, want)
			}
			checkParts(t, total, weights, got)
		}
	}
}

// P5.6
func TestConsequences(t *testing.T) {
	source := newSource()
	for range 2000 {
		total := source.Int64N(most+1) >> source.IntN(20)
		weights := someWeights(source, source.IntN(20)+1)
		parts, e := amount.Share(total, weights)
		if e != api.OK {
			t.Fatalf("Share(%d, %v): %v", total, weights, e)
		}
		checkParts(t, total, weights, parts)
	}
}

// checkParts expects what P5.6 says of the parts.
func checkParts(t *testing.T, total int64, weights, parts []int64) {
	t.Helper()
	var sum, whole int64
	for i := range weights {
		sum += parts[i]
		whole += weights[i]
	}
	if sum != total {
		t.Fatalf("the parts %v of %d add up to %d", parts, total, sum)
	}
	for i, part := range parts {
		exact := big.NewRat(total*weights[i], whole)
		difference := exact.Sub(exact, big.NewRat(part, 1))
		if difference.Abs(difference).Cmp(big.NewRat(1, 1)) >= 0 || weights[i] == 0 && part != 0 {
			t.Fatalf("for the weights %v, %d is shared as %v", weights, total, parts)
		}
		for j, other := range parts {
			if weights[i] > weights[j] && part < other {
				t.Fatalf("for the weights %v, %d is shared as %v", weights, total, parts)
			}
		}
	}
}

// P5.5: long lists, whose weights have a sum beyond 32 bits, or of which each part has the same remainder
func TestShareOfManyParts(t *testing.T) {
	const length = 200000
	great, small := make([]int64, length), make([]int64, length)
	for i := range length {
		great[i], small[i] = most-int64(i%2), 1
	}
	parts, e := amount.Share(300000, small)
	if e != api.OK || len(parts) != length {
		t.Fatalf("Share: %d parts, %v", len(parts), e)
	}
	for i, part := range parts {
		if want := 1 + (299999-int64(i))/200000; part != want {
			t.Fatalf("part %d is %d, want %d", i, part, want)
		}
	}
	parts, e = amount.Share(150000, great)
	if e != api.OK || len(parts) != length {
		t.Fatalf("Share: %d parts, %v", len(parts), e)
	}
	for i, part := range parts {
		// The greater weights come first, and then the first ones of the others.
		if want := i%2 == 0 || i < length/2; (part == 1) != want || part > 1 {
			t.Fatalf("part %d is %d", i, part)
		}
	}
}

// R3
func TestShareLeavesItsArgument(t *testing.T) {
	weights := []int64{3, 1, 2, 77, 77}
	parts, e := amount.Share(10, weights[:3])
	if e != api.OK || !slices.Equal(parts, []int64{5, 2, 3}) {
		t.Errorf("Share = %v, %v", parts, e)
	}
	whole := parts[:cap(parts)]
	for i := range whole {
		whole[i] = 55
	}
	if !slices.Equal(weights, []int64{3, 1, 2, 77, 77}) {
		t.Errorf("the weights became %v", weights)
	}
	again, _ := amount.Share(10, weights[:3])
	if !slices.Equal(again, []int64{5, 2, 3}) {
		t.Errorf("after changing the first result, Share = %v", again)
	}
}
