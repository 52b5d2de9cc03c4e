package flatten_test

import (
	"saleroom/api"
)

// allWithin returns the bundles within last in the order of their ranks: the last product changes first.
func allWithin(last api.Bundle) []api.Bundle {
	var all []api.Bundle
	var choose func(api.Bundle, int)
	choose = func(b api.Bundle, k int) {
		if k == len(b) {
			all = append(all, b)
			return
		}
		for b[k] = 0; b[k] <= last[k]; b[k]++ {
			choose(b, k+1)
		}
	}
	choose(api.Bundle{}, 0)
	return all
}

// isWithin reports whether no quantity of a is greater than that of b.
func isWithin(a, b api.Bundle) bool {
	for k := range a {
		if a[k] > b[k] {
			return false
		}
	}
	return true
}

// minimalByDefinition compares the value of each bundle but the empty one with those of all smaller bundles.
func minimalByDefinition(table []int64, supply api.Bundle) []api.Offer {
	var l []api.Offer
	all := allWithin(supply)
	for i, b := range all {
		minimal := b != api.Bundle{}
		for j, smaller := range all {
			if smaller != b && isWithin(smaller, b) && table[j] >= table[i] {
				minimal = false
			}
		}
		if minimal {
			l = append(l, api.Offer{Want: b, Value: table[i]})
		}
	}
	return l
}

// valueByDefinition returns the greatest value of the offers within b, or 0.
func valueByDefinition(l []api.Offer, b api.Bundle) int64 {
	values := []int64{0}
	for _, offer := range l {
		if isWithin(offer.Want, b) {
			values = append(values, offer.Value)
		}
	}
	greatest := values[0]
	for _, v := range values {
		if v > greatest {
			greatest = v
		}
	}
	return greatest
}

// dominates reports whether offer j of a list dominates offer i of it, by the words of the chapter.
func dominates(l []api.Offer, j, i int) bool {
	other, own := l[j], l[i]
	if i == j || other.Bidder != own.Bidder || !isWithin(other.Want, own.Want) || other.Value < own.Value {
		return false
	}
	if other.Want == own.Want && other.Value == own.Value {
		return j < i
	}
	return true
}

// isDominated reports whether another offer of a list dominates offer i of it.
func isDominated(l []api.Offer, i int) bool {
	for j := range l {
		if dominates(l, j, i) {
			return true
		}
	}
	return false
}

// cleanByDefinition compares each offer with all others.
func cleanByDefinition(l []api.Offer) []api.Offer {
	var kept []api.Offer
	for i, offer := range l {
		if offer.Value >= 1 && !isDominated(l, i) {
			kept = append(kept, offer)
		}
	}
	return kept
}
