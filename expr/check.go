package expr

import (
	"saleroom/api"
	"saleroom/bundle"
)

// Check returns the first error of an expression, or OK if it is valid.
func Check(e api.Expr) api.Errno {
	if deeper(e, api.MaxDepth) {
		return api.ErrDepth
	}
	if tooLarge(e) {
		return api.ErrLong
	}
	first := api.OK
	eachNode(e, func(node api.Expr) bool {
		first = checkNode(node)
		return first == api.OK
	})
	return first
}

// deeper reports whether the depth of e is greater than levels. It looks no farther down, so that it also ends for an
// expression that is among its own arguments.
func deeper(e api.Expr, levels int) bool {
	if levels == 0 {
		return true
	}
	for _, arg := range e.Args {
		if deeper(arg, levels-1) {
			return true
		}
	}
	return false
}

// tooLarge reports whether e has too many nodes, or a node has too many arguments.
func tooLarge(e api.Expr) bool {
	nodes := 0
	return !eachNode(e, func(node api.Expr) bool {
		nodes++
		return nodes <= api.MaxNodes && len(node.Args) <= api.MaxArgs
	})
}

// operation says how many arguments a node has, and checks its other fields.
type operation struct {
	least, most int
	want        func(api.Bundle) api.Errno
	value       func(int64) api.Errno
}

// operationOf returns the operation with the number op, and whether there is one.
func operationOf(op int) (operation, bool) {
	switch op {
	case api.Atom:
		return operation{0, 0, someUnits, anAmount}, true
	case api.Xor, api.Or:
		return operation{1, api.MaxArgs, noUnits, noAmount}, true
	case api.Bonus:
		return operation{1, 1, someUnits, anAmount}, true
	case api.Limit:
		return operation{1, 1, noUnits, anAmount}, true
	}
	return operation{}, false
}

// checkNode returns the error of a node, whatever its arguments are.
func checkNode(node api.Expr) api.Errno {
	op, found := operationOf(node.Op)
	if !found || len(node.Args) < op.least || len(node.Args) > op.most {
		return api.ErrFormat
	}
	// The form comes before the range: no operation has a wrong form of the value beside a range of the bundle.
	if e := op.want(node.Want); e != api.OK {
		return e
	}
	return op.value(node.Value)
}

// noUnits checks the bundle of a node that does not use it.
func noUnits(b api.Bundle) api.Errno {
	if b != (api.Bundle{}) {
		return api.ErrFormat
	}
	return api.OK
}

// someUnits checks the bundle of a node that uses it.
func someUnits(b api.Bundle) api.Errno {
	if bundle.Check(b) != api.OK || bundle.Total(b) == 0 {
		return api.ErrRange
	}
	return api.OK
}

// noAmount checks the value of a node that does not use it.
func noAmount(value int64) api.Errno {
	if value != 0 {
		return api.ErrFormat
	}
	return api.OK
}

// anAmount checks the value of a node that uses it.
func anAmount(value int64) api.Errno {
	if value < 1 || value > api.MaxValue {
		return api.ErrRange
	}
	return api.OK
}
