package exprtext_test

import (
	"math/rand/v2"
	"slices"
	"strings"
	"testing"

	"saleroom/api"
	"saleroom/lexer"
)

// P12.2: the examples of the chapter
func TestParseExamples(t *testing.T) {
	l := example()
	expectParse(t, l, "or( {b:1, a:1} @ 9 )", or(atom(9, 1, 1)))
	expectParseError(t, l, "{c:1}@5", api.ErrNone)
	expectParseError(t, l, "{a:1,a:1}@5", api.ErrExists)
	expectParseError(t, l, "xor()", api.ErrFormat)
	expectParseError(t, l, "{a:1}@", api.ErrShort)
	expectParseError(t, l, "{a:1}@0", api.ErrRange)
	expectParse(t, l, "bonus(or({a:1}@5,{b:1}@7),{a:1,b:1}@2)", bonus(or(atom(5, 1), atom(7, 0, 1)), 2, 1, 1))
	expectParse(t, l, "limit({a:2}@30,20)", limit(atom(30, 2), 20))
}

// P12.2: every operation, with the fewest and the most arguments, and with the least and the greatest numbers
func TestParse(t *testing.T) {
	l := example()
	expectParse(t, l, "{a:1}@1", atom(1, 1))
	expectParse(t, l, "{a:4,b:4}@1000000", atom(value, 4, 4))
	expectParse(t, l, "{b:3,a:2}@10", atom(10, 2, 3))
	expectParse(t, l, "xor({a:1}@5)", xor(atom(5, 1)))
	expectParse(t, l, "or({a:1}@5)", or(atom(5, 1)))
	expectParse(t, l, "or({a:1}@5,{a:1}@5,{b:1}@3)", or(atom(5, 1), atom(5, 1), atom(3, 0, 1)))
	expectParse(t, l, "xor({a:1}@2"+strings.Repeat(",{a:1}@2", args-1)+")", xor(slices.Repeat([]api.Expr{atom(2, 1)}, args)...))
	expectParse(t, l, "or({a:1}@2"+strings.Repeat(",{a:1}@2", args-1)+")", or(slices.Repeat([]api.Expr{atom(2, 1)}, args)...))
	expectParse(t, l, "bonus({a:1}@5,{b:4}@1000000)", bonus(atom(5, 1), value, 0, 4))
	expectParse(t, l, "bonus({a:1}@5,{b:1,a:2}@1)", bonus(atom(5, 1), 1, 2, 1))
	expectParse(t, l, "limit({a:1}@5,1)", limit(atom(5, 1), 1))
	expectParse(t, l, "limit({a:1}@5,1000000)", limit(atom(5, 1), value))
	expectParse(t, l, mixedText, mixed())
	for levels := 1; levels <= depth; levels++ {
		e, text := chain(levels)
		expectParse(t, l, text, e)
	}
}

// P12.2: spaces between any two tokens
func TestParseWithSpaces(t *testing.T) {
	tokens, _ := lexer.Tokens(mixedText)
	for _, space := range []string{" ", "  ", strings.Repeat(" ", 15)} {
		text := space
		for i, token := range tokens {
			one := mixedText[:token.At] + space + mixedText[token.At:]
			expectParse(t, example(), one, mixed())
			expectParse(t, example(), space+one+space, mixed())
			text += tokens[i].Text + space
		}
		expectParse(t, example(), text, mixed())
	}
	expectParse(t, example(), strings.Repeat(" ", textSize-len(mixedText))+mixedText, mixed())
	expectParse(t, example(), mixedText+strings.Repeat(" ", textSize-len(mixedText)), mixed())
}

// P12.2: only the space is one.
func TestParseWithOtherBytes(t *testing.T) {
	tokens, _ := lexer.Tokens(mixedText)
	for c := range 256 {
		letter := string([]byte{byte(c)})
		if strings.Contains(" abcdefghijklmnopqrstuvwxyz0123456789_{}():,@+-=", letter) {
			continue
		}
		for _, token := range tokens {
			expectParseError(t, example(), mixedText[:token.At]+letter+mixedText[token.At:], api.ErrFormat)
		}
		expectParseError(t, example(), mixedText+letter, api.ErrFormat)
	}
}

// P12.2: products that are called like operations, and operations that are not products
func TestParseOfNames(t *testing.T) {
	expectParse(t, six(), "{or:1,xor1:2,bonus:3,abcdefghijkl:4,z_9:3,limit:2}@8", atom(8, 1, 2, 3, 4, 3, 2))
	expectParse(t, six(), "{limit:2,z_9:3,abcdefghijkl:4,bonus:3,xor1:2,or:1}@8", atom(8, 1, 2, 3, 4, 3, 2))
	expectParse(t, six(), "bonus(limit(or({or:1}@1,{limit:1}@2),9),{bonus:1}@3)", bonus(limit(or(atom(1, 1), atom(2, 0, 0, 0, 0, 0, 1)), 9), 3, 0, 0, 1))
	expectParseError(t, six(), "xor1({or:1}@1)", api.ErrFormat)
	expectParseError(t, six(), "z_9({or:1}@1)", api.ErrFormat)
	expectParseError(t, six(), "z_9:1@1", api.ErrFormat)
	expectParseError(t, six(), "{xor:1}@1", api.ErrNone)
	expectParse(t, named("atom", "xor"), "xor({xor:1}@1,{atom:1}@2)", xor(atom(1, 0, 1), atom(2, 1)))
	for _, word := range []string{"atom", "a", "xo", "x", "xors", "xor_", "xor1", "o", "r", "ors", "or0", "bonu", "bonuss", "limi", "limits", "and", "max", "min", "or_", "b", "e", "l", "v"} {
		expectParseError(t, named("atom", "a"), word+"({a:1}@1)", api.ErrFormat)
		expectParseError(t, named("atom", "a"), word+"({a:1}@1,1)", api.ErrFormat)
		expectParseError(t, named("atom", "a"), word+"({a:1}@1,{a:1}@1)", api.ErrFormat)
		expectParseError(t, named("atom", "a"), "or("+word+"({a:1}@1))", api.ErrFormat)
		expectParseError(t, named("atom", "a"), word+"{a:1}@1", api.ErrFormat)
		expectParseError(t, named("atom", "a"), word, api.ErrFormat)
	}
	expectParseError(t, named("xor"), "XOR({xor:1}@1)", api.ErrFormat)
}

// P12.2: each error at each place
func TestParseErrors(t *testing.T) {
	for _, c := range []struct {
		text string
		want api.Errno
	}{
		{"", api.ErrShort},
		{"   ", api.ErrShort},
		{"{", api.ErrShort},
		{"{a", api.ErrShort},
		{"{a:", api.ErrShort},
		{"{a:1", api.ErrShort},
		{"{a:1,", api.ErrShort},
		{"{a:1}", api.ErrShort},
		{"xor", api.ErrShort},
		{"or", api.ErrShort},
		{"bonus", api.ErrShort},
		{"limit", api.ErrShort},
		{"xor(", api.ErrShort},
		{"bonus(", api.ErrShort},
		{"limit(", api.ErrShort},
		{"xor({a:1}@5", api.ErrShort},
		{"xor({a:1}@5,", api.ErrShort},
		{"xor({a:1}@5,{b:1}@7", api.ErrShort},
		{"bonus({a:1}@5", api.ErrShort},
		{"bonus({a:1}@5,", api.ErrShort},
		{"bonus({a:1}@5,{b:1}", api.ErrShort},
		{"bonus({a:1}@5,{b:1}@", api.ErrShort},
		{"bonus({a:1}@5,{b:1}@7", api.ErrShort},
		{"limit({a:1}@5", api.ErrShort},
		{"limit({a:1}@5,", api.ErrShort},
		{"limit({a:1}@5,7", api.ErrShort},
		{"limit(xor({a:1}@5),7", api.ErrShort},

		{"5", api.ErrFormat},
		{"@5", api.ErrFormat},
		{"}", api.ErrFormat},
		{"({a:1}@5)", api.ErrFormat},
		{"a", api.ErrFormat},
		{"a:1@5", api.ErrFormat},
		{"{a:1}5", api.ErrFormat},
		{"{a:1} 5", api.ErrFormat},
		{"{a:1}:5", api.ErrFormat},
		{"{a:1}@@5", api.ErrFormat},
		{"{a:1}@-5", api.ErrFormat},
		{"{a:1}@+5", api.ErrFormat},
		{"{a:1}@a", api.ErrFormat},
		{"{a:1}@{a:1}", api.ErrFormat},
		{"{a:1}@,", api.ErrFormat},
		{"{a 1}@5", api.ErrFormat},
		{"{a:1;}@5", api.ErrFormat},
		{"{a:1,}@5", api.ErrFormat},
		{"{,}@5", api.ErrFormat},
		{"xor{a:1}@5", api.ErrFormat},
		{"xor 5", api.ErrFormat},
		{"or()", api.ErrFormat},
		{"bonus()", api.ErrFormat},
		{"limit()", api.ErrFormat},
		{"xor(5)", api.ErrFormat},
		{"xor(,{a:1}@5)", api.ErrFormat},
		{"xor({a:1}@5,)", api.ErrFormat},
		{"xor({a:1}@5,,{b:1}@7)", api.ErrFormat},
		{"xor({a:1}@5,7)", api.ErrFormat},
		{"or({a:1}@5,7)", api.ErrFormat},
		{"xor({a:1}@5{b:1}@7)", api.ErrFormat},
		{"xor({a:1}@5 7)", api.ErrFormat},
		{"xor({a:1}@5}", api.ErrFormat},
		{"xor({a:1}@5@7)", api.ErrFormat},
		{"xor(({a:1}@5))", api.ErrFormat},
		{"bonus({a:1}@5)", api.ErrFormat},
		{"bonus({a:1}@5,7)", api.ErrFormat},
		{"bonus({a:1}@5,)", api.ErrFormat},
		{"bonus({a:1}@5,{b:1})", api.ErrFormat},
		{"bonus({a:1}@5,xor({b:1}@7))", api.ErrFormat},
		{"bonus({a:1}@5,{b:1}@7,{b:1}@7)", api.ErrFormat},
		{"bonus({a:1}@5,{b:1}@7,7)", api.ErrFormat},
		{"bonus(7,{a:1}@5)", api.ErrFormat},
		{"limit({a:1}@5)", api.ErrFormat},
		{"limit({a:1}@5,)", api.ErrFormat},
		{"limit({a:1}@5,{b:1}@7)", api.ErrFormat},
		{"limit({a:1}@5,@7)", api.ErrFormat},
		{"limit({a:1}@5,7,8)", api.ErrFormat},
		{"limit({a:1}@5,{b:1}@7,8)", api.ErrFormat},
		{"limit({a:1}@5 7)", api.ErrFormat},
		{"limit(7,{a:1}@5)", api.ErrFormat},
		{"limit({a:1}@5,a)", api.ErrFormat},
		{"limit({a:1}@5,-7)", api.ErrFormat},

		{"{c", api.ErrNone},
		{"{c 1}@5", api.ErrNone},
		{"xor({a:1}@5,{c:1}@7)", api.ErrNone},
		{"bonus({a:1}@5,{c:1}@7)", api.ErrNone},
		{"limit({c:1}@5,7)", api.ErrNone},
		{"xor({xor:1}@5)", api.ErrNone},

		{"{a:1,a", api.ErrExists},
		{"{b:1,a:1,b:1}@5", api.ErrExists},
		{"xor({a:1}@5,{b:1,b:1}@7)", api.ErrExists},
		{"bonus({a:1}@5,{b:1,b:2}@7)", api.ErrExists},

		{"{a:0}@5", api.ErrRange},
		{"{a:5}@5", api.ErrRange},
		{"{a:5", api.ErrRange},
		{"{a:1}@1000001", api.ErrRange},
		{"{a:1}@999999999", api.ErrRange},
		{"xor({a:1}@5,{b:1}@1000001)", api.ErrRange},
		{"xor({a:1}@5,{b:0}@1)", api.ErrRange},
		{"bonus({a:1}@5,{b:1}@1000001)", api.ErrRange},
		{"bonus({a:1}@5,{b:5}@1)", api.ErrRange},
		{"limit({a:1}@5,1000001)", api.ErrRange},

		{"{a:1}@5}", api.ErrLong},
		{"{a:1}@5 5", api.ErrLong},
		{"{a:1}@5,", api.ErrLong},
		{"{a:1}@5,{b:1}@7", api.ErrLong},
		{"{a:1}@5{b:1}@7", api.ErrLong},
		{"{a:1}@5 a", api.ErrLong},
		{"{a:1}@5a", api.ErrLong},
		{"xor({a:1}@5))", api.ErrLong},
		{"xor({a:1}@5)@7", api.ErrLong},
		{"xor({a:1}@5)xor({a:1}@5)", api.ErrLong},
		{"bonus({a:1}@5,{b:1}@7),", api.ErrLong},
		{"limit({a:1}@5,7)7", api.ErrLong},
	} {
		expectParseError(t, example(), c.text, c.want)
	}
}

// P12.2: the first error from the left counts, whatever follows.
func TestParseErrorsFromTheLeft(t *testing.T) {
	wrong := []struct {
		text string
		want api.Errno
	}{
		{"xor({a:1} 5", api.ErrFormat},
		{"xor(a:1}@5", api.ErrFormat},
		{"xor({c:1}@5", api.ErrNone},
		{"xor({a:1,a:1}@5", api.ErrExists},
		{"xor({a:1}@1000001", api.ErrRange},
		{"xor({a:7}@1", api.ErrRange},
		{"{a:1}@1,{a:1}@1", api.ErrLong},
		{"limit({a:1}@1,1)", api.ErrLong},
	}
	for _, first := range wrong {
		for _, second := range wrong {
			expectParseError(t, example(), first.text+","+second.text, first.want)
			expectParseError(t, example(), first.text+","+second.text+")", first.want)
			expectParseError(t, example(), first.text+" "+second.text, first.want)
			expectParseError(t, example(), first.text+second.text, first.want)
		}
	}
}

// P12.2: the errors of lexer.Tokens come before those of the grammar, wherever they are.
func TestParseErrorsOfTokens(t *testing.T) {
	for _, before := range []string{"", "{a:1}@5", "{c:1}@5", "{a:1,a:1}@5", "xor()", "{a:1}@1000001", "xor({a:1}@5", "{a:1}@5)"} {
		expectParseError(t, example(), before+" 05", api.ErrFormat)
		expectParseError(t, example(), before+";", api.ErrFormat)
		expectParseError(t, example(), before+"\n", api.ErrFormat)
		expectParseError(t, example(), before+" 1234567890", api.ErrRange)
		expectParseError(t, example(), before+" abcdefghijklm", api.ErrLong)
		expectParseError(t, example(), before+strings.Repeat(" ", textSize+1-len(before)), api.ErrLong)
		expectParseError(t, example(), "A"+strings.Repeat(" ", textSize-len(before))+before, api.ErrLong)
	}
	expectParseError(t, example(), "{a:1}@05", api.ErrFormat)
	expectParseError(t, example(), "{a:01}@5", api.ErrFormat)
	expectParseError(t, example(), "{a:1}@00", api.ErrFormat)
	expectParseError(t, example(), "{a:1}@1000000000", api.ErrRange)
	expectParseError(t, example(), strings.Repeat(" ", textSize), api.ErrShort)
	expectParseError(t, example(), mixedText+strings.Repeat(" ", textSize+1-len(mixedText)), api.ErrLong)
}

// P12.2: the error of catalog.Check comes first.
func TestParseWithBadLists(t *testing.T) {
	for _, bad := range badLists() {
		for _, text := range []string{"{a:1}@5", "", "{c:1}@5", "{a:1,a:1}@5", "xor()", "{a:1}@0", "{a:1}@1000001", "{a:1}@5)", ";", " 1234567890", strings.Repeat(" ", textSize+1), mixedText} {
			expectParseError(t, bad.l, text, bad.err)
		}
	}
}

// P12.2: the errors of expr.Check, which come after those of the grammar
func TestParseErrorsOfExpressions(t *testing.T) {
	wide := strings.Repeat("{a:1}@1,", args) + "{a:1}@1"
	_, deep := chain(depth + 1)
	for _, c := range []struct {
		text string
		want api.Errno
	}{
		{"{a:1}@0", api.ErrRange},
		{"{}@5", api.ErrRange},
		{"{}@0", api.ErrRange},
		{"xor({a:1}@5,{b:1}@0)", api.ErrRange},
		{"xor({a:1}@5,{}@1)", api.ErrRange},
		{"bonus({a:1}@5,{a:1}@0)", api.ErrRange},
		{"bonus({a:1}@5,{}@1)", api.ErrRange},
		{"limit({a:1}@5,0)", api.ErrRange},
		{"xor(" + wide + ")", api.ErrLong},
		{"or(" + wide + ")", api.ErrLong},
		{"limit(or(" + wide + "),5)", api.ErrLong},
		{deep, api.ErrDepth},
		{"or(" + wide + "," + deep + ")", api.ErrDepth},
		{"or({a:1}@0," + wide + ")", api.ErrLong},
		{"or({}@1," + deep + ")", api.ErrDepth},
	} {
		expectParseError(t, example(), c.text, c.want)
		for _, more := range []string{")", ",", " or", " 5", "}"} {
			expectParseError(t, example(), c.text+more, api.ErrLong)
		}
		expectParseError(t, example(), "or("+c.text, api.ErrShort)
		expectParseError(t, example(), "or("+c.text+",{c:1}@5)", api.ErrNone)
		expectParseError(t, example(), "or("+c.text+",{b:1,b:1}@5)", api.ErrExists)
		expectParseError(t, example(), "or("+c.text+",5)", api.ErrFormat)
	}
}

// P12.2: the greatest number of nodes, and one more
func TestParseOfManyNodes(t *testing.T) {
	group := or(slices.Repeat([]api.Expr{atom(1, 1)}, args)...)
	for n := range args {
		e := or(append(slices.Repeat([]api.Expr{group}, 4), slices.Repeat([]api.Expr{atom(1, 1)}, n)...)...)
		text := textOf(example(), e, inOrder(example()))
		if 1+4*(args+1)+n <= nodes {
			expectParse(t, example(), text, e)
		} else {
			expectParseError(t, example(), text, api.ErrLong)
		}
	}
}

// R1, P12.2: texts with as many levels as there can be
func TestParseOfDeepTexts(t *testing.T) {
	for _, levels := range []int{depth + 1, depth + 2, 20, 100, 500, 990} {
		_, text := chain(levels)
		expectParseError(t, example(), text, api.ErrDepth)
		expectParseError(t, example(), text+")", api.ErrLong)
		expectParseError(t, example(), text[:len(text)-1], api.ErrShort)
		expectParseError(t, example(), strings.Replace(text, "a", "c", 1), api.ErrNone)
	}
	expectParseError(t, example(), strings.Repeat("or(", textSize/3), api.ErrShort)
	expectParseError(t, example(), strings.Repeat("xor(", textSize/4), api.ErrShort)
	expectParseError(t, example(), strings.Repeat("limit(", textSize/6), api.ErrShort)
	expectParseError(t, example(), strings.Repeat("bonus(", textSize/6), api.ErrShort)
	expectParseError(t, example(), strings.Repeat("or(", textSize/3)+")", api.ErrFormat)
	expectParseError(t, example(), "or("+strings.Repeat("{a:1}@1,", 499)+")", api.ErrFormat)
	expectParseError(t, example(), "or("+strings.Repeat("{a:1}@1,", 498)+"{a:1}@1)", api.ErrLong)
	expectParseError(t, example(), strings.Repeat("(", textSize), api.ErrFormat)
}

// P12.2: mixed is not complete before its end, wherever it is cut between tokens.
func TestParseOfBeginnings(t *testing.T) {
	tokens, _ := lexer.Tokens(mixedText)
	for _, token := range tokens {
		expectParseError(t, example(), mixedText[:token.At], api.ErrShort)
		expectParseError(t, example(), mixedText[:token.At]+" ", api.ErrShort)
	}
}

// expectByReference expects from Parse what the reference finds.
func expectByReference(t *testing.T, l []api.Product, text string) api.Errno {
	t.Helper()
	want, e := parsed(t, l, text)
	expectParsed(t, l, text, want, e)
	return e
}

// pieces are texts of one token, separated from the next one where they have to be.
var pieces = []string{"{", "}", "(", ")", ":", ",", "@", "-", "xor ", "or ", "bonus ", "limit ", "a ", "b ", "c ", "0 ", "1 ", "5 ", "1000001 "}

// P12.2: mixed with one token less, one more, another one, or two that have changed places
func TestParseWithOtherTokens(t *testing.T) {
	tokens, _ := lexer.Tokens(mixedText)
	for i, token := range tokens {
		before, after := mixedText[:token.At]+" ", " "+mixedText[token.At+len(token.Text):]
		expectByReference(t, example(), before+after)
		for _, piece := range pieces {
			expectByReference(t, example(), before+piece+after)
			expectByReference(t, example(), before+piece+token.Text+after)
		}
		if i > 0 {
			previous := tokens[i-1]
			expectByReference(t, example(), mixedText[:previous.At]+token.Text+" "+previous.Text+after)
		}
	}
}

// P12.2: all texts of up to four of the pieces, and all that follow beginnings of every kind with three more
func TestParseEveryText(t *testing.T) {
	var extend func(string, int)
	extend = func(text string, left int) {
		expectByReference(t, example(), text)
		for _, piece := range pieces {
			if left > 0 {
				extend(text+piece, left-1)
			}
		}
	}
	extend("", 4)
	for _, before := range []string{"{a:1", "{a:1}@5 ", "xor({b:1}@5 ", "or({b:1,", "limit({a:1}@5 ", "limit({a:1}@5,1 ", "bonus({a:1}@5 ",
		"bonus({a:1}@5,", "bonus({a:1}@5,{b:1", "bonus({a:1}@5,{b:1}@7 ", "or(xor({a:1}@5 ", "limit(limit({a:1}@5 ", "bonus(xor({a:1}@5),{}"} {
		extend(before, 3)
	}
}

// garble changes a text at up to two places.
func garble(source *rand.Rand, text string) string {
	for range source.IntN(3) {
		at := source.IntN(len(text) + 1)
		to := min(len(text), at+source.IntN(3))
		text = text[:at] + append(pieces, "", " ", "_", ".")[source.IntN(len(pieces)+4)] + text[to:]
	}
	return text
}

// P12.2: random texts with a few errors
func TestParseManyTexts(t *testing.T) {
	source := newSource()
	seen := map[api.Errno]int{}
	for range 100000 {
		l := someList(source)
		e := someExpr(source, len(l), 1+source.IntN(depth+1))
		text := textOf(l, e, func() []int { return source.Perm(len(l)) })
		seen[expectByReference(t, l, garble(source, text))]++
	}
	for _, e := range []api.Errno{api.OK, api.ErrShort, api.ErrFormat, api.ErrLong, api.ErrRange, api.ErrNone, api.ErrExists, api.ErrDepth} {
		if seen[e] < 100 {
			t.Errorf("%v is the error of only %d texts", e, seen[e])
		}
	}
}
