package flatten

import (
	"slices"

	"saleroom/api"
	"saleroom/expr"
)

// ToExpr returns an expression of which one of the offers counts.
func ToExpr(l []api.Offer) (api.Expr, api.Errno) {
	if len(l) == 0 {
		return api.Expr{}, api.ErrShort
	}
	e := either(groupsOf(atomsOf(l)))
	if err := expr.Check(e); err != api.OK {
		return api.Expr{}, err
	}
	return e, api.OK
}

// atomsOf returns the Atoms of the offers.
func atomsOf(l []api.Offer) []api.Expr {
	atoms := make([]api.Expr, 0, len(l))
	for _, offer := range l {
		atoms = append(atoms, api.Expr{Op: api.Atom, Want: offer.Want, Value: offer.Value})
	}
	return atoms
}

// groupsOf returns an expression for each group of as many consecutive elements as a node can have.
func groupsOf(all []api.Expr) []api.Expr {
	var groups []api.Expr
	for group := range slices.Chunk(all, api.MaxArgs) {
		// A group is a part of all elements, but no two nodes of an expression share memory.
		args := make([]api.Expr, len(group))
		copy(args, group)
		groups = append(groups, either(args))
	}
	return groups
}

// either returns the Xor of the arguments, or the argument if it is the only one.
func either(args []api.Expr) api.Expr {
	if len(args) == 1 {
		return args[0]
	}
	return api.Expr{Op: api.Xor, Args: args}
}
