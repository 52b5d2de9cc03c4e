package demandset

import (
	"cmp"
	"slices"

	"saleroom/api"
	"saleroom/bundle"
	"saleroom/flatten"
)

// worth is a bundle with its value.
type worth struct {
	want  api.Bundle
	value int64
}

// worths returns the bundles within supply in the order of their ranks, with their values under l. It is apart from options,
// because the values along a path stay while the prices change.
func worths(l []api.Offer, supply api.Bundle) []worth {
	l = counting(l)
	var all []worth
	for b := range bundle.All(supply) {
		all = append(all, worth{b, flatten.Value(l, b)})
	}
	return all
}

// option is a bundle with its utility at some prices.
type option struct {
	want    api.Bundle
	utility int64
}

// compare orders options by their utilities.
func (o option) compare(other option) int {
	return cmp.Compare(o.utility, other.utility)
}

// options returns the bundles of all with their utilities at p, in the same order, and none if p is not valid.
func options(all []worth, p api.Prices) []option {
	if !valid(p) {
		return nil
	}
	at := make([]option, 0, len(all))
	for _, w := range all {
		at = append(at, option{w.want, w.value - bundle.Cost(p, w.want)})
	}
	return at
}

// best returns the bundle of the first one of the greatest options, and its utility, or zero values if there are no options.
func best(all []option) (api.Bundle, int64) {
	if len(all) == 0 {
		return api.Bundle{}, 0
	}
	// Of several greatest elements, MaxFunc returns the first one, which has the least rank.
	first := slices.MaxFunc(all, option.compare)
	return first.want, first.utility
}
