package lexer_test

import (
	"math"
	"math/rand/v2"
	"slices"
	"testing"

	"saleroom/api"
	"saleroom/lexer"
)

// scan returns a scanner of the tokens of s.
func scan(t *testing.T, s string) *lexer.Scanner {
	t.Helper()
	return lexer.NewScanner(mustTokens(t, s))
}

// expectRest expects that the scanner has not failed and that the tokens are left. It consumes them.
func expectRest(t *testing.T, s *lexer.Scanner, want ...lexer.Token) {
	t.Helper()
	for i, one := range want {
		if s.Err() != api.OK || s.End() != api.ErrLong {
			t.Fatalf("before token %d: Err is %v, End is %v", i, s.Err(), s.End())
		}
		if got := s.Peek(); got != one {
			t.Fatalf("token %d: Peek is %v, want %v", i, got, one)
		}
		if got := s.Next(); got != one {
			t.Fatalf("token %d: Next is %v, want %v", i, got, one)
		}
	}
	for range 2 {
		if s.Err() != api.OK || s.End() != api.OK {
			t.Fatalf("after the last token: Err is %v, End is %v", s.Err(), s.End())
		}
		if s.Peek() != (lexer.Token{}) || s.Next() != (lexer.Token{}) || s.Accept("") || s.Accept(",") {
			t.Fatal("more tokens are left than expected")
		}
	}
}

// expectFailed expects that the scanner has the error, that nothing can be consumed, and that the error stays.
func expectFailed(t *testing.T, what string, s *lexer.Scanner, want api.Errno) {
	t.Helper()
	for _, use := range []func(){
		func() {},
		func() { s.Fail(api.ErrProof) },
		func() { s.Fail(api.OK) },
		func() { s.Expect(",") },
		func() { s.End() },
	} {
		use()
		expectNothing(t, what, s)
		if s.Err() != want || s.End() != want {
			t.Fatalf("%s: Err is %v, End is %v, want %v", what, s.Err(), s.End(), want)
		}
	}
}

// expectNothing expects zero values from every method that consumes tokens or shows them.
func expectNothing(t *testing.T, what string, s *lexer.Scanner) {
	t.Helper()
	if got := s.Peek(); got != (lexer.Token{}) {
		t.Fatalf("%s: then Peek is %v", what, got)
	}
	if got := s.Next(); got != (lexer.Token{}) {
		t.Fatalf("%s: then Next is %v", what, got)
	}
	for _, mark := range []string{"", ",", "(", "a", "5"} {
		if s.Accept(mark) {
			t.Fatalf("%s: then Accept(%q) is true", what, mark)
		}
	}
	if got := s.Name(); got != "" {
		t.Fatalf("%s: then Name is %q", what, got)
	}
	if got := s.Amount(math.MaxInt64); got != 0 {
		t.Fatalf("%s: then Amount is %d", what, got)
	}
}

// P6.4
func TestNewScanner(t *testing.T) {
	expectRest(t, lexer.NewScanner(nil))
	expectRest(t, lexer.NewScanner([]lexer.Token{}))
	expectRest(t, scan(t, "a ( 5"), wordAt("a", 0), markAt("(", 2), numberAt("5", 4))
	other := []lexer.Token{{}, {Kind: 7, Text: "!", Value: -1, At: -5}, {}}
	expectRest(t, lexer.NewScanner(other), other...)
}

// P6.4: scanners of the same list are independent.
func TestTwoScanners(t *testing.T) {
	l := mustTokens(t, "a (")
	first, second := lexer.NewScanner(l), lexer.NewScanner(l)
	first.Next()
	first.Fail(api.ErrRule)
	expectFailed(t, "the first scanner", first, api.ErrRule)
	expectRest(t, second, wordAt("a", 0), markAt("(", 2))
}

// R3: the list is neither changed nor kept.
func TestNewScannerCopiesItsArgument(t *testing.T) {
	whole := mustTokens(t, "a ( 5 )")
	kept := slices.Clone(whole)
	s := lexer.NewScanner(whole[:3])
	s.Next()
	s.Accept("(")
	s.Amount(9)
	s.Expect(")")
	if !slices.Equal(whole, kept) {
		t.Errorf("the tokens became %v", whole)
	}
	s = lexer.NewScanner(whole[:3])
	clear(whole)
	expectRest(t, s, kept[:3]...)
}

// P6.5: Peek consumes nothing, and Next one token.
func TestPeekAndNext(t *testing.T) {
	s := scan(t, "a 1")
	for range 3 {
		if got := s.Peek(); got != wordAt("a", 0) {
			t.Fatalf("Peek is %v", got)
		}
	}
	expectRest(t, s, wordAt("a", 0), numberAt("1", 2))
}

// P6.6
func TestAccept(t *testing.T) {
	s := scan(t, "( a = 5 (")
	if s.Accept(")") || s.Accept("") || s.Accept("a") || s.Accept("((") {
		t.Fatal("Accept of a mark that is not next is true")
	}
	if !s.Accept("(") {
		t.Fatal("Accept of the mark that is next is false")
	}
	if s.Accept("(") || s.Accept("a") {
		t.Fatal("Accept of a word is true")
	}
	s.Next()
	if !s.Accept("=") || s.Accept("5") || s.Accept("=") {
		t.Fatal("Accept is wrong at = or 5")
	}
	expectRest(t, s, numberAt("5", 6), markAt("(", 8))
}

// P6.6: the kind and the text of the token decide, whatever they are.
func TestAcceptOfOtherTokens(t *testing.T) {
	l := []lexer.Token{{Kind: lexer.Mark}, {Kind: lexer.Mark, Text: "abc", Value: 3}, {Kind: 4, Text: "("}, {}}
	s := lexer.NewScanner(l)
	if s.Accept("(") || !s.Accept("") || s.Accept("") || !s.Accept("abc") || s.Accept("(") {
		t.Fatal("Accept is wrong")
	}
	s.Next()
	if s.Accept("") {
		t.Fatal("Accept of the zero Token is true")
	}
	expectRest(t, s, lexer.Token{})
}

// P6.6
func TestExpect(t *testing.T) {
	s := scan(t, "( )")
	s.Expect("(")
	expectRest(t, s, markAt(")", 2))
}

// P6.6: the errors of Expect
func TestExpectErrors(t *testing.T) {
	for _, text := range []string{"(", "a", "5", ") )"} {
		for _, mark := range []string{",", "", "a", "5"} {
			s := scan(t, text)
			s.Expect(mark)
			expectFailed(t, "Expect("+mark+") at "+text, s, api.ErrFormat)
		}
	}
	s := scan(t, "(")
	s.Expect("(")
	s.Expect("(")
	expectFailed(t, "Expect after the last token", s, api.ErrShort)
	s = lexer.NewScanner(nil)
	s.Expect("")
	expectFailed(t, "Expect without tokens", s, api.ErrShort)
	s = lexer.NewScanner([]lexer.Token{{}})
	s.Expect("")
	expectFailed(t, "Expect at the zero Token", s, api.ErrFormat)
}

// P6.7
func TestName(t *testing.T) {
	s := scan(t, "ab c (")
	if got := s.Name(); got != "ab" {
		t.Errorf("Name is %q", got)
	}
	if got := s.Name(); got != "c" {
		t.Errorf("Name is %q", got)
	}
	expectRest(t, s, markAt("(", 5))
	s = lexer.NewScanner([]lexer.Token{{Kind: lexer.Word, Text: "A long word!", Value: 5}, {Kind: lexer.Word}})
	if first, second := s.Name(), s.Name(); first != "A long word!" || second != "" {
		t.Errorf("Name is %q, then %q", first, second)
	}
	expectRest(t, s)
}

// P6.7: the errors of Name
func TestNameErrors(t *testing.T) {
	for _, text := range []string{"5", "(", "0 a", ", a"} {
		s := scan(t, text)
		if got := s.Name(); got != "" {
			t.Errorf("Name at %q is %q", text, got)
		}
		expectFailed(t, "Name at "+text, s, api.ErrFormat)
	}
	for _, one := range []lexer.Token{{}, {Text: "a"}, {Kind: 4, Text: "a"}, {Kind: lexer.Mark, Text: "a"}, {Kind: lexer.Number, Text: "a"}} {
		s := lexer.NewScanner([]lexer.Token{one})
		if got := s.Name(); got != "" {
			t.Errorf("Name at %v is %q", one, got)
		}
		expectFailed(t, "Name at another token", s, api.ErrFormat)
	}
	s := scan(t, "a")
	if first, second := s.Name(), s.Name(); first != "a" || second != "" {
		t.Errorf("Name is %q, then %q", first, second)
	}
	expectFailed(t, "Name after the last token", s, api.ErrShort)
}

// P6.8
func TestAmount(t *testing.T) {
	cases := []struct {
		text string
		most int64
		want int64
	}{
		{"7", 7, 7},
		{"7", 8, 7},
		{"0", 0, 0},
		{"0", 5, 0},
		{"1000000", api.MaxValue, 1000000},
		{"999999999", 999999999, 999999999},
		{"999999999", math.MaxInt64, 999999999},
	}
	for _, c := range cases {
		s := scan(t, c.text+" x")
		if got := s.Amount(c.most); got != c.want {
			t.Errorf("Amount(%d) at %s is %d", c.most, c.text, got)
		}
		expectRest(t, s, wordAt("x", len(c.text)+1))
	}
	s := lexer.NewScanner([]lexer.Token{{Kind: lexer.Number, Text: "x", Value: math.MaxInt64}})
	if got := s.Amount(math.MaxInt64); got != math.MaxInt64 {
		t.Errorf("Amount at the greatest value is %d", got)
	}
	expectRest(t, s)
}

// expectNoAmount expects that Amount(most) fails with the error.
func expectNoAmount(t *testing.T, s *lexer.Scanner, most int64, want api.Errno) {
	t.Helper()
	if got := s.Amount(most); got != 0 {
		t.Errorf("Amount(%d) is %d", most, got)
	}
	expectFailed(t, "Amount", s, want)
}

// P6.8: the example of the chapter, and all errors of Amount
func TestAmountErrors(t *testing.T) {
	expectNoAmount(t, scan(t, "7"), 5, api.ErrRange)
	expectNoAmount(t, scan(t, "7"), 6, api.ErrRange)
	expectNoAmount(t, scan(t, "1"), 0, api.ErrRange)
	expectNoAmount(t, scan(t, "0"), -1, api.ErrRange)
	expectNoAmount(t, scan(t, "5"), math.MinInt64, api.ErrRange)
	expectNoAmount(t, scan(t, "999999999"), 999999998, api.ErrRange)
	for _, value := range []int64{-1, math.MinInt64} {
		for _, most := range []int64{math.MinInt64, -1, 0, math.MaxInt64} {
			s := lexer.NewScanner([]lexer.Token{{Kind: lexer.Number, Value: value}})
			expectNoAmount(t, s, most, api.ErrRange)
		}
	}
	for _, most := range []int64{-1, 0, 5, math.MaxInt64} {
		expectNoAmount(t, scan(t, "a 5"), most, api.ErrFormat)
		expectNoAmount(t, scan(t, "- 5"), most, api.ErrFormat)
		expectNoAmount(t, lexer.NewScanner([]lexer.Token{{Value: 9}}), most, api.ErrFormat)
		expectNoAmount(t, lexer.NewScanner([]lexer.Token{{Kind: lexer.Word, Value: 3}}), most, api.ErrFormat)
		expectNoAmount(t, lexer.NewScanner([]lexer.Token{{Kind: lexer.Mark, Value: -3}}), most, api.ErrFormat)
		expectNoAmount(t, lexer.NewScanner([]lexer.Token{{Kind: 4, Value: 3}}), most, api.ErrFormat)
		expectNoAmount(t, lexer.NewScanner(nil), most, api.ErrShort)
	}
	s := scan(t, "1")
	s.Amount(1)
	expectNoAmount(t, s, 1, api.ErrShort)
}

// P6.9, P6.10: the first error stays.
func TestFail(t *testing.T) {
	for e := api.ErrShort; e <= api.ErrCommand; e++ {
		s := scan(t, "a ( 5")
		s.Name()
		s.Fail(e)
		expectFailed(t, "Fail", s, e)
	}
	for _, e := range []api.Errno{-1, 23, math.MaxInt, math.MinInt} {
		s := scan(t, "( a")
		s.Fail(e)
		s.Fail(api.ErrShort)
		expectFailed(t, "Fail with an error that api does not name", s, e)
	}
	s := lexer.NewScanner(nil)
	s.Fail(api.ErrName)
	expectFailed(t, "Fail without tokens", s, api.ErrName)
}

// P6.9: Fail with OK does not fail.
func TestFailWithOK(t *testing.T) {
	s := scan(t, "a 5")
	s.Fail(api.OK)
	s.Next()
	s.Fail(api.OK)
	expectRest(t, s, numberAt("5", 2))
}

// P6.9: the example of the chapter; End does not change the scanner.
func TestEnd(t *testing.T) {
	s := scan(t, "a b c")
	s.Next()
	s.Next()
	for range 2 {
		if e := s.End(); e != api.ErrLong {
			t.Errorf("End is %v", e)
		}
	}
	if s.Err() != api.OK {
		t.Errorf("Err after End is %v", s.Err())
	}
	expectRest(t, s, wordAt("c", 4))
	s = scan(t, "a b")
	s.Amount(5)
	if e := s.End(); e != api.ErrFormat {
		t.Errorf("End of a failed scanner with tokens is %v", e)
	}
	if e := lexer.NewScanner([]lexer.Token{{}}).End(); e != api.ErrLong {
		t.Errorf("End with the zero Token left is %v", e)
	}
}

// R4
func TestNilScanner(t *testing.T) {
	var s *lexer.Scanner
	expectFailed(t, "a nil scanner", s, api.ErrNone)
	s.Fail(api.ErrRule)
	s.Expect("(")
	expectFailed(t, "a nil scanner", s, api.ErrNone)
}

// R1
func TestPlainScanner(t *testing.T) {
	s := &lexer.Scanner{}
	s.Peek()
	s.Next()
	s.Accept("")
	s.End()
	s.Expect("(")
	s.Name()
	s.Amount(5)
	s.Fail(api.ErrRule)
	s.Err()
	s.End()
}

// model is a scanner as the chapter defines it: a list, the number of consumed tokens, and an error.
type model struct {
	list     []lexer.Token
	consumed int
	err      api.Errno
}

func (m *model) next() (lexer.Token, bool) {
	if m.err != api.OK || m.consumed == len(m.list) {
		return lexer.Token{}, false
	}
	return m.list[m.consumed], true
}

// take consumes the next token if it is fit, and otherwise fails.
func (m *model) take(unfit api.Errno) lexer.Token {
	one, is := m.next()
	switch {
	case m.err != api.OK:
		return lexer.Token{}
	case !is:
		m.err = api.ErrShort
		return lexer.Token{}
	case unfit != api.OK:
		m.err = unfit
		return lexer.Token{}
	}
	m.consumed++
	return one
}

// either returns e if it holds, and OK otherwise.
func either(holds bool, e api.Errno) api.Errno {
	if holds {
		return e
	}
	return api.OK
}

// step calls the same random method of the model and of the scanner, and reports whether the results are the same.
func step(source *rand.Rand, m *model, s *lexer.Scanner) bool {
	one, is := m.next()
	mark := []string{"(", ")", ",", one.Text}[source.IntN(4)]
	isMark := is && one.Kind == lexer.Mark && one.Text == mark
	switch source.IntN(20) {
	case 0, 1, 2, 3:
		return s.Name() == m.take(either(one.Kind != lexer.Word, api.ErrFormat)).Text
	case 4, 5, 6, 7:
		most := int64(source.IntN(12))
		unfit := either(one.Value > most, api.ErrRange)
		if one.Kind != lexer.Number {
			unfit = api.ErrFormat
		}
		return s.Amount(most) == m.take(unfit).Value
	case 8, 9, 10:
		s.Expect(mark)
		m.take(either(!isMark, api.ErrFormat))
		return true
	case 11:
		e := api.Errno(source.IntN(23))
		s.Fail(e)
		m.err = either(m.err == api.OK, e) + m.err
		return true
	case 12, 13:
		if is {
			m.consumed++
		}
		return s.Next() == one
	default:
		if isMark {
			m.consumed++
		}
		return s.Accept(mark) == isMark
	}
}

// P6.4 to P6.10: against the definition
func TestManyScanners(t *testing.T) {
	source := newSource()
	for range 20000 {
		var l []lexer.Token
		for range source.IntN(8) {
			one := []lexer.Token{{}, wordAt("a", 1), wordAt("b", 2), numberAt("7", 3), numberAt("3", 4), markAt("(", 5), markAt(",", 6)}
			l = append(l, one[source.IntN(len(one))])
		}
		m, s := &model{list: l}, lexer.NewScanner(l)
		for range 10 {
			if !step(source, m, s) {
				t.Fatalf("a result differs from the definition for %v", l)
			}
			end := m.err
			if _, is := m.next(); is {
				end = api.ErrLong
			}
			one, _ := m.next()
			if s.Peek() != one || s.Err() != m.err || s.End() != end {
				t.Fatalf("for %v: Peek is %v, Err is %v, End is %v, want %v, %v, %v", l, s.Peek(), s.Err(), s.End(), one, m.err, end)
			}
		}
	}
}
