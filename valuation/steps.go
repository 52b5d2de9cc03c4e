package valuation

import (
	"saleroom/api"
	"saleroom/bundle"
)

// step is a bundle with its value.
type step struct {
	b     api.Bundle
	value int64
}

// worth returns the value of b under an expression with these steps. It is that of the best step within b, since the other
// units of b add nothing to it.
func worth(steps []step, b api.Bundle) int64 {
	var most int64
	for _, s := range steps {
		if s.value > most && bundle.Within(s.b, b) {
			most = s.value
		}
	}
	return most
}

// stepsOf returns steps of a valid expression that say what each bundle within supply is worth. They are in no order. There
// can be more than MaxPackages bundles within supply.
func stepsOf(e api.Expr, supply api.Bundle) []step {
	values := map[api.Bundle]int64{{}: 0}
	raise := func(b api.Bundle, value int64) {
		if bundle.Within(b, supply) {
			values[b] = max(values[b], min(value, api.MaxValue))
		}
	}
	switch e.Op {
	case api.Atom:
		raise(e.Want, e.Value)
	case api.Xor:
		for _, arg := range e.Args {
			for _, s := range stepsOf(arg, supply) {
				raise(s.b, s.value)
			}
		}
	case api.Or:
		for _, arg := range e.Args {
			before := listOf(values)
			for _, s := range stepsOf(arg, supply) {
				// Of many steps, most pairs do not fit into the supply together, and this sees it without their sum.
				rest := bundle.Sub(supply, s.b)
				for _, other := range before {
					if bundle.Within(other.b, rest) {
						raise(bundle.Add(s.b, other.b), s.value+other.value)
					}
				}
			}
		}
	case api.Bonus:
		for _, s := range stepsOf(e.Args[0], supply) {
			raise(s.b, s.value)
			raise(bundle.Join(s.b, e.Want), s.value+e.Value)
		}
	case api.Limit:
		for _, s := range stepsOf(e.Args[0], supply) {
			raise(s.b, min(s.value, e.Value))
		}
	}
	return listOf(values)
}

// listOf returns the steps with these values.
func listOf(values map[api.Bundle]int64) []step {
	steps := make([]step, 0, len(values))
	for b, value := range values {
		steps = append(steps, step{b, value})
	}
	return steps
}
