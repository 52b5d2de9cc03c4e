package catalog_test

import (
	"saleroom/api"
	"saleroom/lexer"
)

// The states of a model: what the grammar requires next.
const (
	atOpening   = iota
	atFirstName // or }
	atName
	atColon
	atNumber
	atComma // or }
	atEnd
)

// model reads the text of a bundle token by token, as P8.5 defines it.
type model struct {
	l     []api.Product
	state int
	index int
	b     api.Bundle
}

// read returns the bundle at the beginning of the tokens, the number of its tokens, and the first error. The list is valid.
func read(l []api.Product, tokens []lexer.Token) (api.Bundle, int, api.Errno) {
	m := model{l: l}
	for n, one := range tokens {
		if m.state == atEnd {
			return m.b, n, api.OK
		}
		if e := m.step(one); e != api.OK {
			return api.Bundle{}, 0, e
		}
	}
	if m.state != atEnd {
		return api.Bundle{}, 0, api.ErrShort
	}
	return m.b, len(tokens), api.OK
}

// step reads one token.
func (m *model) step(one lexer.Token) api.Errno {
	isMark := func(mark string) bool { return one.Kind == lexer.Mark && one.Text == mark }
	switch {
	case m.state == atOpening && isMark("{"):
		m.state = atFirstName
	case (m.state == atFirstName || m.state == atComma) && isMark("}"):
		m.state = atEnd
	case (m.state == atFirstName || m.state == atName) && one.Kind == lexer.Word:
		return m.name(one.Text)
	case m.state == atColon && isMark(":"):
		m.state = atNumber
	case m.state == atNumber && one.Kind == lexer.Number:
		if one.Value < 1 || one.Value > 4 {
			return api.ErrRange
		}
		m.b[m.index] = int(one.Value)
		m.state = atComma
	case m.state == atComma && isMark(","):
		m.state = atName
	default:
		return api.ErrFormat
	}
	return api.OK
}

// name reads the name of a product.
func (m *model) name(text string) api.Errno {
	for k, p := range m.l {
		if p.Name != text {
			continue
		}
		if m.b[k] != 0 {
			return api.ErrExists
		}
		m.index, m.state = k, atColon
		return api.OK
	}
	return api.ErrNone
}
