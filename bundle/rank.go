package bundle

import "saleroom/api"

// Count returns the number of valid bundles within supply, or 0 if it is not a supply.
func Count(supply api.Bundle) int {
	if Check(supply) != api.OK {
		return 0
	}
	count := 1
	for k := range supply {
		count *= base(supply, k)
	}
	if count > api.MaxPackages {
		return 0
	}
	return count
}

// base returns the base of the digit of product k in the ranks of the bundles within supply.
func base(supply api.Bundle, k int) int {
	return supply[k] + 1
}

// Rank returns the rank of b within supply.
func Rank(supply, b api.Bundle) (int, api.Errno) {
	if Count(supply) == 0 || Check(b) != api.OK || !Within(b, supply) {
		return 0, api.ErrRange
	}
	rank := 0
	for k, quantity := range b {
		rank = rank*base(supply, k) + quantity
	}
	return rank, api.OK
}

// Unrank returns the bundle with the rank n within supply.
func Unrank(supply api.Bundle, n int) (api.Bundle, api.Errno) {
	// No n is below the count of what is not a supply, which is 0.
	if n < 0 || n >= Count(supply) {
		return api.Bundle{}, api.ErrRange
	}
	var b api.Bundle
	for k := len(b) - 1; k >= 0; k-- {
		b[k] = n % base(supply, k)
		n /= base(supply, k)
	}
	return b, api.OK
}
