package bundle

import (
	"iter"

	"saleroom/api"
)

// All yields the valid bundles within supply in the order of their ranks.
func All(supply api.Bundle) iter.Seq[api.Bundle] {
	return func(yield func(api.Bundle) bool) {
		if Count(supply) == 0 {
			return
		}
		for b := range upTo(supply) {
			if !yield(b) {
				return
			}
		}
	}
}

// Splits yields all pairs of valid bundles whose sum is b.
func Splits(b api.Bundle) iter.Seq2[api.Bundle, api.Bundle] {
	return func(yield func(api.Bundle, api.Bundle) bool) {
		// A valid b need not be a supply, so that All would not do here.
		if Check(b) != api.OK {
			return
		}
		for part := range upTo(b) {
			if !yield(part, Sub(b, part)) {
				return
			}
		}
	}
}

// upTo yields the valid bundles within last, which is valid itself, in ascending order of Compare.
func upTo(last api.Bundle) iter.Seq[api.Bundle] {
	return func(yield func(api.Bundle) bool) {
		var b api.Bundle
		for yield(b) && b != last {
			b = next(b, last)
		}
	}
}

// next returns the bundle that follows b among those within last. It relies on b being before last.
func next(b, last api.Bundle) api.Bundle {
	k := len(b) - 1
	for ; b[k] == last[k]; k-- {
		b[k] = 0
	}
	b[k]++
	return b
}
