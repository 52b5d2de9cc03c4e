package amount

import (
	"cmp"
	"slices"

	"saleroom/api"
)

// Share divides total in proportion to the weights by the method of largest remainders.
func Share(total int64, weights []int64) ([]int64, api.Errno) {
	if e := Check(total); e != api.OK {
		return nil, e
	}
	sum, e := sumOf(weights)
	if e != api.OK {
		return nil, e
	}
	parts := make([]int64, len(weights))
	missing := total
	give := func(i int, units int64) {
		parts[i] += units
		missing -= units
	}
	for i, weight := range weights {
		give(i, total*weight/sum)
	}
	// Each part lacks less than one unit of its share, so that fewer units are missing than there are parts.
	order := byRemainder(total, weights, sum)
	for _, i := range order[:missing] {
		give(i, 1)
	}
	return parts, api.OK
}

// sumOf returns the sum of the weights, or the error of weights that are no amounts or all 0.
func sumOf(weights []int64) (int64, api.Errno) {
	var sum int64
	for _, weight := range weights {
		if e := Check(weight); e != api.OK {
			return 0, e
		}
		sum += weight
	}
	if sum == 0 {
		return 0, api.ErrNone
	}
	return sum, api.OK
}

// byRemainder returns the indices of the weights, those with the greatest remainders of total * weight / sum first.
func byRemainder(total int64, weights []int64, sum int64) []int {
	order := make([]int, len(weights))
	for i := range len(weights) {
		order[i] = i
	}
	remainder := func(i int) int64 { return total * weights[i] % sum }
	slices.SortFunc(order, func(a, b int) int {
		return cmp.Or(cmp.Compare(remainder(b), remainder(a)), cmp.Compare(a, b))
	})
	return order
}
