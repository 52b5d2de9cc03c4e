package catalog

import (
	"strconv"
	"strings"

	"saleroom/api"
	"saleroom/bundle"
	"saleroom/lexer"
)

// Format returns the text of b, or the empty string if the list is not valid or b does not fit it.
func Format(l []api.Product, b api.Bundle) string {
	if Check(l) != api.OK || !fits(l, b) {
		return ""
	}
	var elements []string
	for k, p := range l {
		if b[k] > 0 {
			elements = append(elements, p.Name+":"+strconv.Itoa(b[k]))
		}
	}
	return "{" + strings.Join(elements, ",") + "}"
}

// fits reports whether b fits the list, which is valid.
func fits(l []api.Product, b api.Bundle) bool {
	for _, quantity := range b[len(l):] {
		if quantity != 0 {
			return false
		}
	}
	return bundle.Check(b) == api.OK
}

// Scan reads the text of a bundle from s. It fails s with the first error and then returns the empty bundle.
func Scan(l []api.Product, s *lexer.Scanner) api.Bundle {
	if e := Check(l); e != api.OK {
		s.Fail(e)
		return api.Bundle{}
	}
	var b api.Bundle
	s.Expect("{")
	if !s.Accept("}") {
		scanElement(l, s, &b)
		for s.Accept(",") {
			scanElement(l, s, &b)
		}
		s.Expect("}")
	}
	if s.Err() != api.OK {
		return api.Bundle{}
	}
	return b
}

// scanElement reads the name of a product, a colon and a quantity, and adds them to b. The list is valid.
func scanElement(l []api.Product, s *lexer.Scanner, b *api.Bundle) {
	// If Name has failed, s keeps that error: the list has no empty name, and of several errors the first one stays.
	k, found := Find(l, s.Name())
	switch {
	case !found:
		s.Fail(api.ErrNone)
		return
	case b[k] > 0:
		s.Fail(api.ErrExists)
		return
	}
	s.Expect(":")
	b[k] = int(s.Amount(api.MaxSupply))
	if b[k] == 0 {
		s.Fail(api.ErrRange)
	}
}

// Parse returns the bundle whose text, as Scan reads it, is s.
func Parse(l []api.Product, s string) (api.Bundle, api.Errno) {
	if e := Check(l); e != api.OK {
		return api.Bundle{}, e
	}
	tokens, e := lexer.Tokens(s)
	if e != api.OK {
		return api.Bundle{}, e
	}
	scanner := lexer.NewScanner(tokens)
	b := Scan(l, scanner)
	if e := scanner.End(); e != api.OK {
		return api.Bundle{}, e
	}
	return b, api.OK
}
