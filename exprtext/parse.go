package exprtext

import (
	"saleroom/api"
	"saleroom/catalog"
	"saleroom/expr"
	"saleroom/lexer"
)

// Parse returns the expression that s denotes.
func Parse(l []api.Product, s string) (api.Expr, api.Errno) {
	if err := catalog.Check(l); err != api.OK {
		return api.Expr{}, err
	}
	tokens, err := lexer.Tokens(s)
	if err != api.OK {
		return api.Expr{}, err
	}
	p := parser{products: l, tokens: lexer.NewScanner(tokens)}
	e := p.read()
	if err := p.tokens.End(); err != api.OK {
		return api.Expr{}, err
	}
	// The grammar knows no values of 0, no empty bundles and no limits of the size, so these are still possible here.
	if err := expr.Check(e); err != api.OK {
		return api.Expr{}, err
	}
	return e, api.OK
}

// parser reads expressions with the names of a valid list of products. Its scanner keeps the first error and has no tokens
// left after it; what the parser then returns does not matter.
type parser struct {
	products []api.Product
	tokens   *lexer.Scanner
}

// read consumes an expression.
func (p parser) read() api.Expr {
	e := api.Expr{Op: p.readOperation()}
	for _, part := range operations[e.Op].layout {
		p.readPart(part, &e)
	}
	return e
}

// readOperation consumes the word of an operation, if there is one, and returns the operation, or 0 if the word is none.
func (p parser) readOperation() int {
	if p.tokens.Peek().Kind != lexer.Word {
		// Without a word, only the bundle of an Atom can follow; if it does not, reading it finds the error.
		return api.Atom
	}
	word := p.tokens.Name()
	for op, operation := range operations {
		if operation.word == word {
			return op
		}
	}
	p.tokens.Fail(api.ErrFormat)
	return 0
}

// readPart consumes one part of the layout of e.
func (p parser) readPart(part rune, e *api.Expr) {
	switch part {
	case argument, arguments:
		e.Args = append(e.Args, p.read())
		for part == arguments && p.tokens.Accept(",") {
			e.Args = append(e.Args, p.read())
		}
	case bid:
		e.Want = catalog.Scan(p.products, p.tokens)
		p.tokens.Expect("@")
		fallthrough
	case amount:
		e.Value = p.tokens.Amount(api.MaxValue)
	default:
		p.tokens.Expect(string(part))
	}
}
