package valuation_test

import (
	"saleroom/api"
)

// definition follows the words of the chapter's definition of values. It keeps what it has computed.
type definition map[division]int64

// division is the question what a bundle is worth under the arguments of an Or from one of them on.
type division struct {
	node *api.Expr
	from int
	b    api.Bundle
}

// valueByDefinition returns the value of b under e.
func valueByDefinition(e api.Expr, b api.Bundle) int64 {
	return definition{}.value(&e, b)
}

// value returns the value of b under a node.
func (d definition) value(node *api.Expr, b api.Bundle) int64 {
	var v int64
	switch node.Op {
	case api.Atom:
		if isWithin(node.Want, b) {
			v = node.Value
		}
	case api.Xor:
		for i := range node.Args {
			v = max(v, d.value(&node.Args[i], b))
		}
	case api.Or:
		v = d.divide(division{node, 0, b})
	case api.Bonus:
		v = d.value(&node.Args[0], b)
		if isWithin(node.Want, b) {
			v += node.Value
		}
	case api.Limit:
		v = min(d.value(&node.Args[0], b), node.Value)
	}
	return min(v, most)
}

// divide returns the greatest sum of values over all ways to divide a bundle among arguments.
func (d definition) divide(q division) int64 {
	arg := &q.node.Args[q.from]
	if q.from == len(q.node.Args)-1 {
		return d.value(arg, q.b)
	}
	v, known := d[q]
	if known {
		return v
	}
	eachUpTo(q.b, func(part api.Bundle) {
		rest := q.b
		for k := range rest {
			rest[k] -= part[k]
		}
		v = max(v, d.value(arg, part)+d.divide(division{q.node, q.from + 1, rest}))
	})
	d[q] = v
	return v
}

// tableByDefinition returns the values under e of the bundles within supply in ascending order.
func tableByDefinition(e api.Expr, supply api.Bundle) []int64 {
	var table []int64
	d := definition{}
	eachUpTo(supply, func(b api.Bundle) {
		table = append(table, d.value(&e, b))
	})
	return table
}

// packed returns the greatest sum of the values of some of the Atoms whose wanted units are together within b.
func packed(atoms []api.Expr, b api.Bundle) int64 {
	if len(atoms) == 0 {
		return 0
	}
	v := packed(atoms[1:], b)
	if isWithin(atoms[0].Want, b) {
		for k := range b {
			b[k] -= atoms[0].Want[k]
		}
		v = max(v, atoms[0].Value+packed(atoms[1:], b))
	}
	return v
}

// isMonotone compares all pairs of bundles within supply.
func isMonotone(table []int64, supply api.Bundle) bool {
	var all []api.Bundle
	eachUpTo(supply, func(b api.Bundle) { all = append(all, b) })
	for i, small := range all {
		for j, great := range all {
			if isWithin(small, great) && table[i] > table[j] {
				return false
			}
		}
	}
	return true
}
