package exprtext_test

import (
	"slices"
	"strings"
	"testing"

	"saleroom/api"
	"saleroom/expr"
	"saleroom/exprtext"
)

// expectRoundTrip expects that Format and Parse of e are the inverse of each other.
func expectRoundTrip(t *testing.T, l []api.Product, e api.Expr) string {
	t.Helper()
	text, err := exprtext.Format(l, e)
	if err != api.OK {
		t.Fatalf("Format(%v, %v): %v", l, e, err)
	}
	got, err := exprtext.Parse(l, text)
	if err != api.OK || !expr.Equal(got, e) {
		t.Fatalf("Parse(%v, %q) = %v, %v, want %v", l, text, got, err, e)
	}
	return text
}

// P12.3: Parse of Format returns an equal expression.
func TestParseOfFormat(t *testing.T) {
	source := newSource()
	expectRoundTrip(t, example(), mixed())
	for size := 3900; size <= textSize; size++ {
		expectRoundTrip(t, long(), ofSize(t, size))
	}
	for range 20000 {
		l := someList(source)
		expectRoundTrip(t, l, validExpr(source, len(l)))
	}
}

// P12.3: Format of what Parse returned succeeds, and parsing that text returns the same expression.
func TestFormatOfParse(t *testing.T) {
	source := newSource()
	for range 10000 {
		l := someList(source)
		e := validExpr(source, len(l))
		text := textOf(l, e, func() []int { return source.Perm(len(l)) })
		for _, mark := range []string{"(", ")", "{", "}", ",", ":", "@"} {
			text = strings.ReplaceAll(text, mark, strings.Repeat(" ", source.IntN(2))+mark+strings.Repeat(" ", source.IntN(2)))
		}
		if len(text) > textSize {
			continue
		}
		first, err := exprtext.Parse(l, text)
		if err != api.OK {
			t.Fatalf("Parse(%v, %q): %v", l, text, err)
		}
		if again := expectRoundTrip(t, l, first); again != textOf(l, e, inOrder(l)) || strings.Contains(again, " ") {
			t.Fatalf("the text of %q is %q", text, again)
		}
	}
}

// spared returns a copy of e in which all lists of arguments have spare capacity with more nodes.
func spared(e api.Expr) api.Expr {
	if len(e.Args) == 0 {
		return e
	}
	list := make([]api.Expr, 0, len(e.Args)+2)
	for _, arg := range e.Args {
		list = append(list, spared(arg))
	}
	e.Args = append(list, atom(11, 1), atom(12, 2))[:len(list)]
	return e
}

// R3: arguments are not modified, and neither is their spare capacity.
func TestArgumentsStay(t *testing.T) {
	source := newSource()
	for range 2000 {
		l := slices.Concat(someList(source), named("spare", "spare"))
		n := len(l) - 2
		e := spared(validExpr(source, n))
		list, copied := slices.Clone(l), expr.Copy(e)
		text, _ := exprtext.Format(l[:n], e)
		exprtext.Parse(l[:n], text)
		if !slices.Equal(l, list) || !same(e, copied) {
			t.Fatalf("%v and %v have become %v and %v", list, copied, l, e)
		}
		for _, node := range preorder(&e) {
			if more := node.Args[len(node.Args):cap(node.Args)]; len(more) > 0 && (!same(more[0], atom(11, 1)) || !same(more[1], atom(12, 2))) {
				t.Fatalf("the spare capacity of %v has become %v", node, more)
			}
		}
	}
}

// R3: a parsed expression is new memory, and each of its lists has its own.
func TestParsedExpressionsShareNothing(t *testing.T) {
	e, _ := exprtext.Parse(example(), mixedText)
	other, _ := exprtext.Parse(example(), mixedText)
	all := preorder(&e)
	for i := range all {
		whole, _ := exprtext.Parse(example(), mixedText)
		node := preorder(&whole)[i]
		for range cap(node.Args) - len(node.Args) {
			node.Args = append(node.Args, atom(99, 4))
		}
		node.Args = node.Args[:len(all[i].Args)]
		if !same(whole, mixed()) {
			t.Fatalf("more arguments of node %d make %v of the expression", i, whole)
		}
	}
	for _, node := range all {
		*node = api.Expr{}
	}
	if !same(other, mixed()) {
		t.Errorf("another expression has become %v", other)
	}
	expectParse(t, example(), mixedText, mixed())
}
