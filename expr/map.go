package expr

import (
	"saleroom/api"
)

// Copy returns an expression that is equal to e and shares no memory with it.
func Copy(e api.Expr) api.Expr {
	return apply(e, func(node api.Expr) api.Expr {
		return node
	})
}

// Map returns what f makes of the nodes of e, arguments first.
func Map(e api.Expr, f func(api.Expr) api.Expr) api.Expr {
	if f == nil {
		return Copy(e)
	}
	// A function that panics has no result, and Map does not panic for any function.
	defer func() { _ = recover() }()
	// The function may keep or repeat what it returns, and the result has memory of its own.
	return Copy(apply(e, f))
}

// apply returns what f makes of e after its arguments.
func apply(e api.Expr, f func(api.Expr) api.Expr) api.Expr {
	var args []api.Expr
	if len(e.Args) > 0 {
		args = make([]api.Expr, len(e.Args))
	}
	for i, arg := range e.Args {
		args[i] = apply(arg, f)
	}
	e.Args = args
	return f(e)
}
