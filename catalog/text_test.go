package catalog_test

import (
	"math"
	"math/rand/v2"
	"strconv"
	"strings"
	"testing"

	"saleroom/api"
	"saleroom/catalog"
	"saleroom/lexer"
)

// expectFormat expects the text from Format(l, b).
func expectFormat(t *testing.T, l []api.Product, b api.Bundle, want string) {
	t.Helper()
	if got := catalog.Format(l, b); got != want {
		t.Errorf("Format(%v, %v) = %q, want %q", l, b, got, want)
	}
}

// P8.4: the example of the chapter; quantities of 0 are left out, and a bundle that fits need not be within the supply.
func TestFormat(t *testing.T) {
	expectFormat(t, example(), with(1, 2), "{a:1,b:2}")
	expectFormat(t, example(), with(), "{}")
	expectFormat(t, example(), with(2), "{a:2}")
	expectFormat(t, example(), with(0, 1), "{b:1}")
	expectFormat(t, example(), with(4, 3), "{a:4,b:3}")
	l := list(1, 1, 1, 1, 1, 1)
	expectFormat(t, l, with(1, 2, 3, 4, 0, 1), "{p0:1,p1:2,p2:3,p3:4,p5:1}")
	expectFormat(t, l, with(0, 0, 0, 0, 0, 4), "{p5:4}")
	expectFormat(t, l, same(4), "{p0:4,p1:4,p2:4,p3:4,p4:4,p5:4}")
	l = []api.Product{{Name: "zz_9", Supply: 1}, {Name: "abcdefghijkl", Supply: 1}}
	expectFormat(t, l, with(3, 1), "{zz_9:3,abcdefghijkl:1}")
}

// P8.4: the list is not valid, or the bundle does not fit it.
func TestFormatOfBadArguments(t *testing.T) {
	for _, bad := range badLists() {
		expectFormat(t, bad.l, with(1), "")
		expectFormat(t, bad.l, with(), "")
	}
	for _, b := range badBundles() {
		expectFormat(t, example(), b, "")
		expectFormat(t, list(1, 1, 1, 1, 1, 1), b, "")
	}
	for n := 1; n < products; n++ {
		for k := n; k < products; k++ {
			for quantity := 1; quantity <= units; quantity++ {
				b := with(1)
				b[k] = quantity
				expectFormat(t, list(1, 1, 1, 1, 1, 1)[:n], b, "")
			}
		}
	}
}

// expectParse expects the bundle and the error from Parse(l, text).
func expectParse(t *testing.T, l []api.Product, text string, want api.Bundle, e api.Errno) {
	t.Helper()
	if got, err := catalog.Parse(l, text); got != want || err != e {
		t.Fatalf("Parse(%v, %.80q) = %v, %v, want %v, %v", l, text, got, err, want, e)
	}
}

// P8.5
func TestParse(t *testing.T) {
	l := example()
	expectParse(t, l, "{a:1,b:2}", with(1, 2), api.OK)
	expectParse(t, l, "{ b : 2 , a : 1 }", with(1, 2), api.OK)
	expectParse(t, l, "  {  b:2,a  :1}  ", with(1, 2), api.OK)
	expectParse(t, l, "{}", with(), api.OK)
	expectParse(t, l, " { } ", with(), api.OK)
	expectParse(t, l, "{a:4}", with(4), api.OK)
	expectParse(t, l, "{b:4,a:3}", with(3, 4), api.OK)
	six := list(1, 1, 1, 1, 1, 1)
	expectParse(t, six, "{p5:1,p3:4,p0:2,p4:3,p1:1,p2:2}", with(2, 1, 2, 4, 3, 1), api.OK)
	expectParse(t, six, "{p5:4}", with(0, 0, 0, 0, 0, 4), api.OK)
	expectParse(t, l, "{"+strings.Repeat(" ", 3995)+"a:1}", with(1), api.OK)
}

// P8.5: the examples of the chapter, and each error at each place
func TestParseErrors(t *testing.T) {
	cases := []struct {
		text string
		want api.Errno
	}{
		{"{a:0}", api.ErrRange},
		{"{c:1}", api.ErrNone},
		{"{a:1,a:1}", api.ErrExists},
		{"{a:1", api.ErrShort},
		{"{a 1}", api.ErrFormat},

		{"", api.ErrShort},
		{"   ", api.ErrShort},
		{"{", api.ErrShort},
		{"{a", api.ErrShort},
		{"{a:", api.ErrShort},
		{"{a:1,", api.ErrShort},
		{"{a:1,b", api.ErrShort},
		{"{a:1,b:", api.ErrShort},
		{"{a:1,b:2", api.ErrShort},

		{"}", api.ErrFormat},
		{"(a:1)", api.ErrFormat},
		{"a:1", api.ErrFormat},
		{"1", api.ErrFormat},
		{"{1", api.ErrFormat},
		{"{1:a}", api.ErrFormat},
		{"{:", api.ErrFormat},
		{"{,a:1}", api.ErrFormat},
		{"{,}", api.ErrFormat},
		{"{{", api.ErrFormat},
		{"{a,", api.ErrFormat},
		{"{a}", api.ErrFormat},
		{"{a=1}", api.ErrFormat},
		{"{a::1}", api.ErrFormat},
		{"{a:b}", api.ErrFormat},
		{"{a:-1}", api.ErrFormat},
		{"{a:}", api.ErrFormat},
		{"{a:,", api.ErrFormat},
		{"{a:1 b:2}", api.ErrFormat},
		{"{a:1 2}", api.ErrFormat},
		{"{a:1:2}", api.ErrFormat},
		{"{a:1)", api.ErrFormat},
		{"{a:1,}", api.ErrFormat},
		{"{a:1,,b:1}", api.ErrFormat},
		{"{a:1,1", api.ErrFormat},

		{"{c", api.ErrNone},
		{"{c 1}", api.ErrNone},
		{"{c:0}", api.ErrNone},
		{"{ab:1}", api.ErrNone},
		{"{a1:1}", api.ErrNone},
		{"{a:1,c", api.ErrNone},
		{"{a:1,aa:1}", api.ErrNone},

		{"{a:1,a", api.ErrExists},
		{"{a:1,a 1}", api.ErrExists},
		{"{a:1,a:0}", api.ErrExists},
		{"{b:2,a:1,b:2}", api.ErrExists},
		{"{b:1,a:1,a:1}", api.ErrExists},

		{"{a:5", api.ErrRange},
		{"{a:5}", api.ErrRange},
		{"{a:0 b", api.ErrRange},
		{"{a:0,a:1}", api.ErrRange},
		{"{a:0,c:1}", api.ErrRange},
		{"{a:1,b:0}", api.ErrRange},
		{"{a:1,b:5}", api.ErrRange},
		{"{a:256}", api.ErrRange},
		{"{a:257}", api.ErrRange},
		{"{a:999999999}", api.ErrRange},

		{"{}}", api.ErrLong},
		{"{} {}", api.ErrLong},
		{"{a:1}@5", api.ErrLong},
		{"{a:1},", api.ErrLong},
		{"{a:1} a", api.ErrLong},
		{"{a:1} 0", api.ErrLong},
	}
	for _, c := range cases {
		expectParse(t, example(), c.text, with(), c.want)
	}
}

// P8.5: the errors of lexer.Tokens come before those of Scan, wherever they are.
func TestParseErrorsOfTokens(t *testing.T) {
	l := example()
	expectParse(t, l, "{a:1}.", with(), api.ErrFormat)
	expectParse(t, l, "{c:1}.", with(), api.ErrFormat)
	expectParse(t, l, "{c:1}A", with(), api.ErrFormat)
	expectParse(t, l, "{a:1}\n", with(), api.ErrFormat)
	expectParse(t, l, "{a:01}", with(), api.ErrFormat)
	expectParse(t, l, "{c:01}", with(), api.ErrFormat)
	expectParse(t, l, "{a:00}", with(), api.ErrFormat)
	expectParse(t, l, "{a 1234567890}", with(), api.ErrRange)
	expectParse(t, l, "{a:1,a:1234567890}", with(), api.ErrRange)
	expectParse(t, l, "{c:1,abcdefghijklm:1}", with(), api.ErrLong)
	expectParse(t, l, "} abcdefghijklm", with(), api.ErrLong)
	expectParse(t, l, strings.Repeat(" ", 4000), with(), api.ErrShort)
	expectParse(t, l, strings.Repeat(" ", 4001), with(), api.ErrLong)
	expectParse(t, l, "{"+strings.Repeat(" ", 3996)+"a:1}", with(), api.ErrLong)
	expectParse(t, l, strings.Repeat("}", 4000), with(), api.ErrFormat)
	expectParse(t, l, strings.Repeat("A", 4001), with(), api.ErrLong)
}

// P8.5: the error of Check comes first.
func TestParseWithBadLists(t *testing.T) {
	for _, bad := range badLists() {
		for _, text := range []string{"{a:1}", "{}", "", "{c:1}", "{a:1", "}", ".", "abcdefghijklm", "{:1}", strings.Repeat(" ", 4001)} {
			expectParse(t, bad.l, text, with(), bad.err)
		}
	}
}

// expectByModel expects from Parse what the model reads.
func expectByModel(t *testing.T, l []api.Product, text string) {
	t.Helper()
	tokens, e := lexer.Tokens(text)
	if e != api.OK {
		expectParse(t, l, text, with(), e)
		return
	}
	b, n, e := read(l, tokens)
	if e == api.OK && n < len(tokens) {
		b, e = with(), api.ErrLong
	}
	expectParse(t, l, text, b, e)
}

// P8.5: all texts of up to four of the pieces, and all that follow { and {a:1 with a few more, against the definition
func TestParseEveryText(t *testing.T) {
	l := example()
	pieces := []string{"{", "}", ":", ",", "a", "b ", "c ", "0 ", "4 "}
	var extend func(string, int)
	extend = func(text string, left int) {
		expectByModel(t, l, text)
		for _, piece := range pieces {
			if left > 0 {
				extend(text+piece, left-1)
			}
		}
	}
	extend("", 4)
	extend("{", 5)
	extend("{a:1", 6)
}

// garble changes a text at up to two places.
func garble(source *rand.Rand, text string) string {
	for range source.IntN(3) {
		at := source.IntN(len(text) + 1)
		to := min(len(text), at+source.IntN(2))
		text = text[:at] + []string{"", "{", "}", ":", ",", "a", "b", "0", "1", "5", " ", "-", "."}[source.IntN(13)] + text[to:]
	}
	return text
}

// P8.5: random texts with a few errors, against the definition
func TestParseManyTexts(t *testing.T) {
	source := newSource()
	for range 50000 {
		l := someList(source)
		var elements []string
		for _, k := range source.Perm(len(l))[:source.IntN(len(l)+1)] {
			elements = append(elements, l[k].Name+":"+strconv.Itoa(1+source.IntN(units)))
		}
		expectByModel(t, l, garble(source, "{"+strings.Join(elements, ",")+"}"))
	}
}

// scan returns a scanner of a text without errors.
func scan(t *testing.T, text string) *lexer.Scanner {
	t.Helper()
	tokens, e := lexer.Tokens(text)
	if e != api.OK {
		t.Fatalf("Tokens(%q): %v", text, e)
	}
	return lexer.NewScanner(tokens)
}

// expectScan expects the bundle from Scan, and then the error and the number of tokens of the scanner.
func expectScan(t *testing.T, l []api.Product, s *lexer.Scanner, want api.Bundle, e api.Errno, left int) {
	t.Helper()
	if got := catalog.Scan(l, s); got != want || s.Err() != e {
		t.Fatalf("Scan is %v and the error is %v, want %v and %v", got, s.Err(), want, e)
	}
	count := 0
	for s.Next() != (lexer.Token{}) {
		count++
	}
	if count != left {
		t.Errorf("Scan left %d tokens, want %d", count, left)
	}
}

// P8.5: the example of the chapter; Scan reads no more than the bundle.
func TestScan(t *testing.T) {
	expectScan(t, example(), scan(t, "{ b : 2 , a : 1 }"), with(1, 2), api.OK, 0)
	expectScan(t, example(), scan(t, "{a:1,b:2}@500"), with(1, 2), api.OK, 2)
	expectScan(t, example(), scan(t, "{},{a:1}"), with(), api.OK, 6)
	expectScan(t, example(), scan(t, "{}:1}"), with(), api.OK, 3)
	s := scan(t, "x {a:1} , {b:2} }")
	s.Name()
	if got := catalog.Scan(example(), s); got != with(1) {
		t.Errorf("the first bundle is %v", got)
	}
	s.Expect(",")
	expectScan(t, example(), s, with(0, 2), api.OK, 1)
}

// P8.5: the errors are reported to the scanner, also when the error comes after elements that could be read.
func TestScanErrors(t *testing.T) {
	for _, c := range []struct {
		text string
		want api.Errno
	}{
		{"", api.ErrShort},
		{"{a:1,b:2", api.ErrShort},
		{"{a:1,b:2)", api.ErrFormat},
		{"a {a:1}", api.ErrFormat},
		{"{a:1,c:1}", api.ErrNone},
		{"{a:1,b:1,a:1}", api.ErrExists},
		{"{b:2,a:0}", api.ErrRange},
		{"{b:2,a:5}", api.ErrRange},
	} {
		expectScan(t, example(), scan(t, c.text), with(), c.want, 0)
	}
}

// P8.5: the error of Check comes before those of the tokens.
func TestScanWithBadLists(t *testing.T) {
	for _, bad := range badLists() {
		for _, text := range []string{"{a:1}", "{}", "", "}", "{c:1}", "{:1}", "{1"} {
			expectScan(t, bad.l, scan(t, text), with(), bad.err, 0)
		}
		catalog.Scan(bad.l, nil)
		catalog.Scan(bad.l, &lexer.Scanner{})
	}
}

// P8.5: a scanner that has failed keeps its error.
func TestScanAfterAnError(t *testing.T) {
	for _, e := range []api.Errno{api.ErrShort, api.ErrRule, api.ErrNone, -1, math.MaxInt} {
		for _, text := range []string{"{a:1}", "{}", "", "}"} {
			s := scan(t, text)
			s.Fail(e)
			expectScan(t, example(), s, with(), e, 0)
			s = scan(t, text)
			s.Fail(e)
			expectScan(t, nil, s, with(), e, 0)
		}
	}
}

// P8.5, R1
func TestScanWithoutAScanner(t *testing.T) {
	expectScan(t, example(), nil, with(), api.ErrNone, 0)
	expectScan(t, nil, nil, with(), api.ErrNone, 0)
	catalog.Scan(example(), &lexer.Scanner{})
	catalog.Scan(nil, &lexer.Scanner{})
}

// P8.5: tokens that no text has; their kinds, texts and values decide.
func TestScanOtherTokens(t *testing.T) {
	word := func(text string) lexer.Token { return lexer.Token{Kind: lexer.Word, Text: text} }
	number := func(value int64) lexer.Token { return lexer.Token{Kind: lexer.Number, Text: "1", Value: value} }
	mark := func(text string) lexer.Token { return lexer.Token{Kind: lexer.Mark, Text: text} }
	expect := func(want api.Bundle, e api.Errno, l ...lexer.Token) {
		t.Helper()
		expectScan(t, example(), lexer.NewScanner(l), want, e, 0)
	}
	expect(with(4), api.OK, mark("{"), word("a"), mark(":"), number(4), mark("}"))
	for _, value := range []int64{-1, 5, -4, 257, math.MinInt64, math.MaxInt64, 1<<32 + 1, -(1 << 62)} {
		expect(with(), api.ErrRange, mark("{"), word("a"), mark(":"), number(value), mark("}"))
	}
	expect(with(), api.ErrNone, mark("{"), word(""), mark(":"), number(1), mark("}"))
	expect(with(), api.ErrNone, mark("{"), word("A long word!"), mark(":"), number(1), mark("}"))
	expect(with(), api.ErrFormat, word("{"), mark("}"))
	expect(with(), api.ErrFormat, mark("{"), word("a"), word(":"), number(1), mark("}"))
	expect(with(), api.ErrFormat, mark("{"), mark("a"), mark(":"), number(1), mark("}"))
	expect(with(), api.ErrFormat, mark("{"), word("a"), mark(":"), word("1"), mark("}"))
	expect(with(), api.ErrFormat, mark("{a:1}"))
	source := newSource()
	all := []lexer.Token{{}, word("a"), word("b"), word(""), word("}"), mark("{"), mark("}"), mark(":"), mark(","), mark(""), number(1), number(-1), {Kind: 4, Text: "a", Value: 1}}
	for range 100000 {
		tokens := []lexer.Token{mark("{"), word("a"), mark(":"), number(2), mark(","), word("b"), mark(":"), number(1), mark("}")}
		for range source.IntN(3) {
			tokens[source.IntN(len(tokens))] = all[source.IntN(len(all))]
		}
		b, _, e := read(example(), tokens)
		if s := lexer.NewScanner(tokens); catalog.Scan(example(), s) != b || s.Err() != e {
			t.Fatalf("Scan of %v: the error is %v, want %v and %v", tokens, s.Err(), b, e)
		}
	}
}
