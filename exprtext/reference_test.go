package exprtext_test

import (
	"regexp"
	"slices"
	"strconv"
	"strings"
	"testing"

	"saleroom/api"
	"saleroom/expr"
	"saleroom/lexer"
)

// machine reads an input text token by token, and only looks for errors. Its stack has what must follow, the next part last.
type machine struct {
	l     []api.Product
	stack []string
	used  map[string]bool
}

// push adds parts to the stack, so that the first of them comes next.
func (m *machine) push(parts ...string) {
	slices.Reverse(parts)
	m.stack = append(m.stack, parts...)
}

// read returns the first error of the tokens, as error 3 of the chapter's list describes it.
func (m *machine) read(tokens []lexer.Token) api.Errno {
	m.push("expression")
	for _, t := range tokens {
		if len(m.stack) == 0 {
			return api.ErrLong
		}
		part := m.stack[len(m.stack)-1]
		m.stack = m.stack[:len(m.stack)-1]
		if e := m.step(part, t); e != api.OK {
			return e
		}
	}
	if len(m.stack) > 0 {
		return api.ErrShort
	}
	return api.OK
}

// step reads one token where a part is required.
func (m *machine) step(part string, t lexer.Token) api.Errno {
	switch part + " " + t.Text {
	case "expression {":
		m.used = map[string]bool{}
		m.push("first name", "@", "value")
		return api.OK
	case "bundle {":
		m.used = map[string]bool{}
		m.push("first name")
		return api.OK
	case "expression xor", "expression or":
		m.push("(", "expression", "next expression")
		return api.OK
	case "expression bonus":
		m.push("(", "expression", ",", "bundle", "@", "value", ")")
		return api.OK
	case "expression limit":
		m.push("(", "expression", ",", "value", ")")
		return api.OK
	case "next expression ,":
		m.push("expression", "next expression")
		return api.OK
	case "next name ,":
		m.push("name")
		return api.OK
	case "next expression )", "next name }", "first name }":
		return api.OK
	}
	switch part {
	case "name", "first name":
		return m.name(t)
	case "quantity":
		return number(t, 1, units)
	case "value":
		return number(t, 0, value)
	}
	if t.Kind == lexer.Mark && t.Text == part {
		return api.OK
	}
	return api.ErrFormat
}

// name reads the name of a product.
func (m *machine) name(t lexer.Token) api.Errno {
	switch {
	case t.Kind != lexer.Word:
		return api.ErrFormat
	case !slices.ContainsFunc(m.l, func(p api.Product) bool { return p.Name == t.Text }):
		return api.ErrNone
	case m.used[t.Text]:
		return api.ErrExists
	}
	m.used[t.Text] = true
	m.push(":", "quantity", "next name")
	return api.OK
}

// number returns the error of a token where a number from least to most is required.
func number(t lexer.Token, least, most int64) api.Errno {
	switch {
	case t.Kind != lexer.Number:
		return api.ErrFormat
	case t.Value < least || t.Value > most:
		return api.ErrRange
	}
	return api.OK
}

var (
	bidForm     = regexp.MustCompile(`\{([^{}]*)\}@(\d+)`)
	elementForm = regexp.MustCompile(`([a-z0-9_]+):(\d+)`)
	innerForm   = regexp.MustCompile(`(xor|or|bonus|limit)\(([<>,\d]*)\)`)
	nodeForm    = regexp.MustCompile(`<(\d+)>`)
)

// reducer finds the expression of an input text without errors, from the innermost nodes outwards. In the text that is left,
// <3> stands for its fourth node.
type reducer struct {
	l     []api.Product
	nodes []api.Expr
}

// keep adds a node, and returns what stands for it.
func (r *reducer) keep(e api.Expr) string {
	r.nodes = append(r.nodes, e)
	return "<" + strconv.Itoa(len(r.nodes)-1) + ">"
}

// bid keeps an Atom for a bundle and its value. If they belong to a Bonus, that one takes them from the Atom.
func (r *reducer) bid(text string) string {
	parts := bidForm.FindStringSubmatch(text)
	e := api.Expr{Op: api.Atom}
	for _, element := range elementForm.FindAllStringSubmatch(parts[1], -1) {
		k := slices.IndexFunc(r.l, func(p api.Product) bool { return p.Name == element[1] })
		e.Want[k], _ = strconv.Atoi(element[2])
	}
	e.Value, _ = strconv.ParseInt(parts[2], 10, 64)
	return r.keep(e)
}

// inner keeps a node whose arguments have all been kept.
func (r *reducer) inner(text string) string {
	parts := innerForm.FindStringSubmatch(text)
	var list []api.Expr
	for _, node := range nodeForm.FindAllStringSubmatch(parts[2], -1) {
		i, _ := strconv.Atoi(node[1])
		list = append(list, r.nodes[i])
	}
	switch parts[1] {
	case "xor":
		return r.keep(xor(list...))
	case "or":
		return r.keep(or(list...))
	case "bonus":
		return r.keep(bonus(list[0], list[1].Value, list[1].Want[:]...))
	}
	amount, _ := strconv.ParseInt(parts[2][strings.LastIndex(parts[2], ",")+1:], 10, 64)
	return r.keep(limit(list[0], amount))
}

// reduce returns the expression of a text without spaces.
func (r *reducer) reduce(t *testing.T, text string) api.Expr {
	t.Helper()
	rest := bidForm.ReplaceAllStringFunc(text, r.bid)
	for innerForm.MatchString(rest) {
		rest = innerForm.ReplaceAllStringFunc(rest, r.inner)
	}
	if nodeForm.FindString(rest) != rest {
		t.Fatalf("%q cannot be reduced further than to %q", text, rest)
	}
	return r.nodes[len(r.nodes)-1]
}

// parsed returns what Parse has to return for a valid list, by the definitions of the chapter.
func parsed(t *testing.T, l []api.Product, text string) (api.Expr, api.Errno) {
	t.Helper()
	tokens, e := lexer.Tokens(text)
	if e != api.OK {
		return api.Expr{}, e
	}
	m := machine{l: l}
	if e := m.read(tokens); e != api.OK {
		return api.Expr{}, e
	}
	r := reducer{l: l}
	node := r.reduce(t, strings.ReplaceAll(text, " ", ""))
	if e := expr.Check(node); e != api.OK {
		return api.Expr{}, e
	}
	return node, api.OK
}
