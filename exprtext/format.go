package exprtext

import (
	"strconv"
	"strings"

	"saleroom/api"
	"saleroom/catalog"
	"saleroom/expr"
)

// Format returns the text of e.
func Format(l []api.Product, e api.Expr) (string, api.Errno) {
	if err := catalog.Check(l); err != api.OK {
		return "", err
	}
	if err := expr.Check(e); err != api.OK {
		return "", err
	}
	// Both are valid, so that a bundle has no text only if it does not fit the list.
	if catalog.Format(l, expr.Products(e)) == "" {
		return "", api.ErrRange
	}
	w := writer{products: l}
	w.write(e)
	if w.text.Len() > api.MaxText {
		return "", api.ErrLong
	}
	return w.text.String(), api.OK
}

// writer collects the text of a valid expression that fits a valid list of products.
type writer struct {
	products []api.Product
	text     strings.Builder
}

// write adds the text of e.
func (w *writer) write(e api.Expr) {
	operation := operations[e.Op]
	w.text.WriteString(operation.word)
	for _, part := range operation.layout {
		w.writePart(part, e)
	}
}

// writePart adds the text of one part of the layout of e.
func (w *writer) writePart(part rune, e api.Expr) {
	switch part {
	case argument, arguments:
		for i, arg := range e.Args {
			if i > 0 {
				w.text.WriteByte(',')
			}
			w.write(arg)
		}
	case bid:
		w.text.WriteString(catalog.Format(w.products, e.Want))
		w.text.WriteByte('@')
		fallthrough
	case amount:
		w.text.WriteString(strconv.FormatInt(e.Value, 10))
	default:
		w.text.WriteRune(part)
	}
}
