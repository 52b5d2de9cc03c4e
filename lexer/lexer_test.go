package lexer_test

import (
	"slices"
	"strings"
	"testing"

	"saleroom/api"
	"saleroom/lexer"
)

// The chapter gives the kinds these numbers.
func TestKinds(t *testing.T) {
	if lexer.Word != 1 || lexer.Number != 2 || lexer.Mark != 3 {
		t.Errorf("the kinds are %d, %d and %d", lexer.Word, lexer.Number, lexer.Mark)
	}
}

// P6.1: the examples of the chapter
func TestTokens(t *testing.T) {
	expectTokens(t, "a1 {2", wordAt("a1", 0), markAt("{", 3), numberAt("2", 4))
	expectTokens(t, "{a:2}@500", markAt("{", 0), wordAt("a", 1), markAt(":", 2), numberAt("2", 3), markAt("}", 4), markAt("@", 5), numberAt("500", 6))
	expectTokens(t, "12ab", numberAt("12", 0), wordAt("ab", 2))
	expectNoTokens(t, "x 007", api.ErrFormat)
}

// P6.1: each token is as long as possible, and spaces are not necessary.
func TestTokensWithoutSpaces(t *testing.T) {
	expectTokens(t, "a_1b__", wordAt("a_1b__", 0))
	expectTokens(t, "1a1", numberAt("1", 0), wordAt("a1", 1))
	expectTokens(t, "a+b-10", wordAt("a", 0), markAt("+", 1), wordAt("b", 2), markAt("-", 3), numberAt("10", 4))
	expectTokens(t, "--1", markAt("-", 0), markAt("-", 1), numberAt("1", 2))
	expectTokens(t, "0a00", numberAt("0", 0), wordAt("a00", 1))
	expectTokens(t, "0:0", numberAt("0", 0), markAt(":", 1), numberAt("0", 2))
}

// P6.1: spaces at the beginning and the end, and several of them
func TestTokensWithSpaces(t *testing.T) {
	expectTokens(t, "")
	expectTokens(t, " ")
	expectTokens(t, strings.Repeat(" ", 4000))
	expectTokens(t, "   a  0   ", wordAt("a", 3), numberAt("0", 6))
	expectTokens(t, "or ( a , 5 b )", wordAt("or", 0), markAt("(", 3), wordAt("a", 5), markAt(",", 7), numberAt("5", 9), wordAt("b", 11), markAt(")", 13))
	expectTokens(t, "a b", wordAt("a", 0), wordAt("b", 2))
	expectTokens(t, "1 2", numberAt("1", 0), numberAt("2", 2))
	expectTokens(t, "- 1", markAt("-", 0), numberAt("1", 2))
}

// P6.1: the ten marks
func TestTokensOfMarks(t *testing.T) {
	const marks = "{}():,@+-="
	var all []lexer.Token
	for i, c := range marks {
		expectTokens(t, string(c), markAt(string(c), 0))
		all = append(all, markAt(string(c), i))
	}
	expectTokens(t, marks, all...)
}

// P6.1: a number has at most 9 digits, and begins with 0 only if it is 0.
func TestTokensOfNumbers(t *testing.T) {
	for _, digits := range []string{"0", "1", "9", "10", "100000000", "123456789", "999999999"} {
		expectTokens(t, digits, numberAt(digits, 0))
		expectTokens(t, " "+digits+"}", numberAt(digits, 1), markAt("}", 1+len(digits)))
	}
	for _, digits := range []string{"1000000000", "9999999999", "4294967296", "4294967297", "9223372036854775808", "18446744073709551617", strings.Repeat("1", 4000)} {
		expectNoTokens(t, digits, api.ErrRange)
		expectNoTokens(t, "a "+digits[:10]+"x", api.ErrRange)
	}
	for _, digits := range []string{"00", "01", "007", "0000000000", "0123456789", "01234567890", strings.Repeat("0", 4000)} {
		expectNoTokens(t, digits, api.ErrFormat)
		expectNoTokens(t, "a "+digits[:2]+"x", api.ErrFormat)
	}
}

// P6.1: a word has at most 12 bytes.
func TestTokensOfWords(t *testing.T) {
	for _, text := range []string{"a", "z", "az", "a_", "a9", "a0", "x_y_z", "or", "xor", "abcdefghijkl", "a23456789012", "a___________"} {
		expectTokens(t, text, wordAt(text, 0))
		expectTokens(t, "1"+text+",", numberAt("1", 0), wordAt(text, 1), markAt(",", 1+len(text)))
	}
	for _, text := range []string{"abcdefghijklm", "a234567890123", "a____________", strings.Repeat("z", 4000)} {
		expectNoTokens(t, text, api.ErrLong)
		expectNoTokens(t, "{ "+text[:13]+" }", api.ErrLong)
	}
}

// P6.1: every byte at the beginning of a text, after a word, after a number, after a mark and after a space
func TestTokensOfEveryByte(t *testing.T) {
	for b := range 256 {
		for _, before := range []string{"", "a", "1", "(", " ", "a "} {
			for _, after := range []string{"", "a", "1", ")", " ", " a"} {
				expectAsDefined(t, before+string([]byte{byte(b)})+after)
			}
		}
	}
	for _, begun := range []string{"_", "A", "Z", "`", "[", "/", ";", "<", "?", "*", ".", "!", "\t", "\n", "\r", "\x00", "\x7f", "\x80", "\xff"} {
		expectNoTokens(t, begun, api.ErrFormat)
		expectNoTokens(t, "a "+begun, api.ErrFormat)
		expectNoTokens(t, "(1"+begun+")", api.ErrFormat)
	}
}

// P6.1: characters beyond ASCII, of which some are letters, digits, marks or spaces elsewhere, or end with the bytes of those
func TestTokensOfOtherCharacters(t *testing.T) {
	for _, c := range []string{"\u00e4", "\u00a0", "\u0161", "\u0661", "\uff11", "\uff5b", "\u2212", "\u3000", "\ufffd", "\U0001f600", "\xc3", "\xe1\x61"} {
		expectNoTokens(t, c, api.ErrFormat)
		expectNoTokens(t, "a"+c, api.ErrFormat)
		expectNoTokens(t, "1"+c+"1", api.ErrFormat)
	}
}

// P6.1: of several errors the first one from the left counts.
func TestTokensFirstError(t *testing.T) {
	const long = "abcdefghijklm"
	cases := []struct {
		s    string
		want api.Errno
	}{
		{long + " 01 1234567890 !", api.ErrLong},
		{"01 " + long + " 1234567890", api.ErrFormat},
		{"1234567890 " + long + " 01 !", api.ErrRange},
		{"! " + long + " 1234567890", api.ErrFormat},
		{long + "!", api.ErrLong},
		{"1234567890!", api.ErrRange},
		{"1234567890" + long, api.ErrRange},
		{"00" + long, api.ErrFormat},
		{"a!" + long, api.ErrFormat},
		{"abcdefghijkl!", api.ErrFormat},
		{"123456789!", api.ErrFormat},
		{"abcdefghijklM", api.ErrFormat},
		{"a b c " + long, api.ErrLong},
		{"(1,2,03)", api.ErrFormat},
		{strings.Repeat(" ", 3987) + long, api.ErrLong},
		{strings.Repeat("a ", 1999) + "!", api.ErrFormat},
	}
	for _, c := range cases {
		expectNoTokens(t, c.s, c.want)
	}
}

// P6.1: texts of 4000 bytes, and of 4001 bytes, whose ErrLong comes before all other errors
func TestTokensOfLongTexts(t *testing.T) {
	whole := strings.Repeat("ab,1", 1000)
	expectAsDefined(t, whole)
	if all := mustTokens(t, whole); len(all) != 3000 || all[2999] != numberAt("1", 3999) {
		t.Errorf("a text of 4000 bytes has %d tokens", len(all))
	}
	for _, s := range []string{whole + " ", whole + "a", "!" + whole, strings.Repeat("0", 4001), strings.Repeat(" ", 4001), strings.Repeat("{", 5000), strings.Repeat("a ", 1<<20)} {
		expectNoTokens(t, s, api.ErrLong)
	}
}

// P6.1: against the definitions, for all short texts
func TestTokensOfShortTexts(t *testing.T) {
	everyText("az_09 {=A", 5, func(s string) { expectAsDefined(t, s) })
}

// P6.1: against the definitions, for texts of many tokens
func TestTokensOfManyTexts(t *testing.T) {
	source := newSource()
	without := 0
	for i := range 5000 {
		s := someText(source, i%40)
		expectAsDefined(t, s)
		if _, e := lexer.Tokens(s); e == api.OK {
			without++
		}
	}
	if without < 500 || without > 4500 {
		t.Errorf("%d of 5000 texts have no error", without)
	}
}

// R3: results are new memory.
func TestTokensSharesNothing(t *testing.T) {
	first := mustTokens(t, "a (1)")
	for i := range first[:cap(first)] {
		first[:cap(first)][i] = markAt("=", 7)
	}
	expectTokens(t, "a (1)", wordAt("a", 0), markAt("(", 2), numberAt("1", 3), markAt(")", 4))
}

// P6.2: the examples of the chapter, and the limits
func TestIsName(t *testing.T) {
	for _, s := range []string{"a_1", "a", "z", "abcdefghijkl", "a_", "a00000000000", "or"} {
		if !lexer.IsName(s) {
			t.Errorf("IsName(%q) is false", s)
		}
	}
	for _, s := range []string{
		"1a", "", "_", "_a", "1", "A", "aB", "a b", " a", "a ", " ", "a\n", "a-b", "a,", "(a", "abcdefghijklm",
		"\u00e4", "a\u00e4", "a\xff", "abcdefghijk\u00e4", "a\x00", strings.Repeat("a", 1<<20), strings.Repeat(" ", 11) + "a",
	} {
		if lexer.IsName(s) {
			t.Errorf("IsName(%.40q) is true", s)
		}
	}
}

// P6.2: a name is what Tokens reads as one word that is the whole text.
func TestIsNameOfManyTexts(t *testing.T) {
	check := func(s string) {
		all, e := lexer.Tokens(s)
		want := e == api.OK && len(all) == 1 && all[0] == wordAt(s, 0)
		if got := lexer.IsName(s); got != want {
			t.Fatalf("IsName(%q) is %v", s, got)
		}
	}
	everyText("az_09 {=A\x80", 4, check)
	for b := range 256 {
		c := string([]byte{byte(b)})
		for _, s := range []string{c, "a" + c, c + "a", "b" + c + "b"} {
			check(s)
		}
	}
	for i := range 30 {
		check(strings.Repeat("x", i))
		check("y" + strings.Repeat("_", i))
	}
}

// P6.3: the example of the chapter, and all kinds of two tokens beside each other
func TestJoin(t *testing.T) {
	cases := []struct{ s, want string }{
		{"or ( a , 5 b )", "or(a,5 b)"},
		{"", ""},
		{"  ", ""},
		{"a", "a"},
		{" 0 ", "0"},
		{"a b", "a b"},
		{"a  1", "a 1"},
		{"12ab", "12 ab"},
		{"1 2  3", "1 2 3"},
		{"a (", "a("},
		{"( a", "(a"},
		{"1 =", "1="},
		{"- 1", "-1"},
		{"( (", "(("},
		{"a ( b c ) d", "a(b c)d"},
		{"xor ( { a : 1 } @ 5 , { b : 1 } @ 7 )", "xor({a:1}@5,{b:1}@7)"},
	}
	for _, c := range cases {
		if got := lexer.Join(mustTokens(t, c.s)); got != c.want {
			t.Errorf("Join(Tokens(%q)) = %q, want %q", c.s, got, c.want)
		}
	}
}

// P6.3: Join looks at the kind and the text alone, whatever they are.
func TestJoinOfOtherTokens(t *testing.T) {
	cases := []struct {
		l    []lexer.Token
		want string
	}{
		{nil, ""},
		{[]lexer.Token{}, ""},
		{[]lexer.Token{{}}, ""},
		{[]lexer.Token{{}, {}}, " "},
		{[]lexer.Token{{}, {Kind: lexer.Mark}, {}}, ""},
		{[]lexer.Token{{Kind: lexer.Mark, Text: "a"}, {Kind: lexer.Mark, Text: "b"}}, "ab"},
		{[]lexer.Token{{Kind: lexer.Word, Text: "("}, {Kind: lexer.Word, Text: ")"}}, "( )"},
		{[]lexer.Token{{Kind: lexer.Number, Value: 5}, {Kind: lexer.Number, Text: "x y", Value: 7}}, " x y"},
		{[]lexer.Token{{Kind: 4, Text: "p"}, {Kind: -1, Text: "\xff"}, {Kind: lexer.Mark, Text: "r"}}, "p \xffr"},
	}
	for _, c := range cases {
		if got := lexer.Join(c.l); got != c.want {
			t.Errorf("Join(%v) = %q, want %q", c.l, got, c.want)
		}
	}
}

// P6.3: lists longer than any text
func TestJoinOfLongLists(t *testing.T) {
	l := slices.Repeat([]lexer.Token{wordAt("ab", 0)}, 300000)
	if got, want := lexer.Join(l), strings.Repeat("ab ", 299999)+"ab"; got != want {
		t.Errorf("Join of 300000 words has %d bytes", len(got))
	}
}

// R3
func TestJoinLeavesItsArgument(t *testing.T) {
	whole := mustTokens(t, "a b ( 5 c")
	kept := slices.Clone(whole)
	lexer.Join(whole[:3])
	if !slices.Equal(whole, kept) {
		t.Errorf("the tokens became %v", whole)
	}
}

// withoutAt returns the tokens with At 0.
func withoutAt(l []lexer.Token) []lexer.Token {
	all := slices.Clone(l)
	for i := range all {
		all[i].At = 0
	}
	return all
}

// expectSameTokens expects that the joined tokens of s have the tokens of s, except for At.
func expectSameTokens(t *testing.T, s string) {
	t.Helper()
	all, e := lexer.Tokens(s)
	if e != api.OK {
		return
	}
	joined := lexer.Join(all)
	if len(joined) > api.MaxText {
		expectNoTokens(t, joined, api.ErrLong)
		return
	}
	again, e := lexer.Tokens(joined)
	if e != api.OK || !slices.Equal(withoutAt(again), withoutAt(all)) {
		t.Fatalf("the tokens of %.60q are %v, and those of %.60q are %v, %v", s, all, joined, again, e)
	}
	if lexer.Join(again) != joined {
		t.Fatalf("%.60q is joined to %.60q", joined, lexer.Join(again))
	}
}

// P6.10
func TestTokensOfJoinedTokens(t *testing.T) {
	everyText("az_09 {=", 5, func(s string) { expectSameTokens(t, s) })
	source := newSource()
	for i := range 5000 {
		expectSameTokens(t, someText(source, i%100))
	}
	expectSameTokens(t, strings.Repeat("ab,1", 1000))
	expectSameTokens(t, strings.Repeat("1a(", 1000))
	expectSameTokens(t, strings.Repeat("1a(", 1001))
	expectSameTokens(t, strings.Repeat("1a(", 1333))
}
