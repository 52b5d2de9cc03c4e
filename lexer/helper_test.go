package lexer_test

import (
	"math/rand/v2"
	"regexp"
	"slices"
	"strconv"
	"strings"
	"testing"

	"saleroom/api"
	"saleroom/lexer"
)

// newSource returns a source of the same numbers in every run.
func newSource() *rand.Rand {
	return rand.New(rand.NewPCG(9, 10))
}

var (
	wordText   = regexp.MustCompile(`^[a-z][a-z0-9_]*`)
	numberText = regexp.MustCompile(`^[0-9]+`)
	markText   = regexp.MustCompile(`^[{}():,@+=-]`)
	spaces     = regexp.MustCompile(`^ +`)
)

// tokensOf returns what Tokens has to return for s, by the definitions of the chapter.
func tokensOf(s string) ([]lexer.Token, api.Errno) {
	if len(s) > 4000 {
		return nil, api.ErrLong
	}
	var all []lexer.Token
	at := 0
	take := func(form *regexp.Regexp) string {
		text := form.FindString(s[at:])
		at += len(text)
		return text
	}
	for take(spaces); at < len(s); take(spaces) {
		from := at
		if text := take(wordText); text != "" {
			if len(text) > 12 {
				return nil, api.ErrLong
			}
			all = append(all, wordAt(text, from))
		} else if text := take(numberText); text != "" {
			if len(text) > 1 && text[0] == '0' {
				return nil, api.ErrFormat
			}
			if len(text) > 9 {
				return nil, api.ErrRange
			}
			all = append(all, numberAt(text, from))
		} else if text := take(markText); text != "" {
			all = append(all, markAt(text, from))
		} else {
			return nil, api.ErrFormat
		}
	}
	return all, api.OK
}

func wordAt(text string, at int) lexer.Token {
	return lexer.Token{Kind: lexer.Word, Text: text, At: at}
}

func numberAt(text string, at int) lexer.Token {
	value, err := strconv.ParseInt(text, 10, 64)
	if err != nil {
		panic(err)
	}
	return lexer.Token{Kind: lexer.Number, Text: text, Value: value, At: at}
}

func markAt(text string, at int) lexer.Token {
	return lexer.Token{Kind: lexer.Mark, Text: text, At: at}
}

// expectTokens expects the tokens from Tokens(s).
func expectTokens(t *testing.T, s string, want ...lexer.Token) {
	t.Helper()
	if got, e := lexer.Tokens(s); e != api.OK || !slices.Equal(got, want) {
		t.Fatalf("Tokens(%.60q) = %v, %v, want %v", s, got, e, want)
	}
}

// expectNoTokens expects the error from Tokens(s).
func expectNoTokens(t *testing.T, s string, want api.Errno) {
	t.Helper()
	if got, e := lexer.Tokens(s); e != want || len(got) != 0 {
		t.Fatalf("Tokens(%.60q) = %v, %v, want %v", s, got, e, want)
	}
}

// expectAsDefined expects from Tokens(s) what the definitions say.
func expectAsDefined(t *testing.T, s string) {
	t.Helper()
	want, e := tokensOf(s)
	if e != api.OK {
		expectNoTokens(t, s, e)
		return
	}
	expectTokens(t, s, want...)
}

// mustTokens returns the tokens of a text that has no error.
func mustTokens(t *testing.T, s string) []lexer.Token {
	t.Helper()
	all, e := lexer.Tokens(s)
	if e != api.OK {
		t.Fatalf("Tokens(%q): %v", s, e)
	}
	return all
}

// pieces are parts of texts: tokens, parts of tokens, separators, and characters that begin no token.
var pieces = []string{
	"a", "z", "b_1", "or", "xor", "abcdefghijkl", "abcdef", "_", "__", "0", "1", "9", "10", "00", "12345", "999999999",
	"{", "}", "(", ")", ":", ",", "@", "+", "-", "=", " ", "  ", "a", "5", " ", ",", "A", "\n", "\t", ".", "ä", "\x80", "\x00",
}

// someText returns a text of random pieces, which mostly has tokens and no error.
func someText(source *rand.Rand, length int) string {
	var text strings.Builder
	for range length {
		n := len(pieces)
		if source.IntN(20) > 0 {
			n -= 7
		}
		text.WriteString(pieces[source.IntN(n)])
		if source.IntN(3) == 0 {
			text.WriteString(" ")
		}
	}
	return text.String()
}

// everyText calls use with every text of at most length characters of the alphabet.
func everyText(alphabet string, length int, use func(string)) {
	var extend func(string, int)
	extend = func(text string, left int) {
		use(text)
		if left == 0 {
			return
		}
		for i := range len(alphabet) {
			extend(text+alphabet[i:i+1], left-1)
		}
	}
	extend("", length)
}
