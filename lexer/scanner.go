package lexer

import (
	"slices"

	"saleroom/api"
)

// Scanner consumes tokens and keeps its first error. After an error it has no tokens left.
type Scanner struct {
	rest []Token
	err  api.Errno
}

// NewScanner returns a scanner of the tokens of l, of which it makes a copy.
func NewScanner(l []Token) *Scanner {
	return &Scanner{rest: slices.Clone(l)}
}

// left returns the number of tokens that can be consumed.
func (s *Scanner) left() int {
	if s == nil {
		return 0
	}
	return len(s.rest)
}

// Peek returns the next token, or the zero Token if there is none.
func (s *Scanner) Peek() Token {
	if s.left() == 0 {
		return Token{}
	}
	return s.rest[0]
}

// Next consumes and returns the next token.
func (s *Scanner) Next() Token {
	t := s.Peek()
	if s.left() > 0 {
		s.rest = s.rest[1:]
	}
	return t
}

// Accept consumes the next token if it is the mark, and reports whether it is.
func (s *Scanner) Accept(mark string) bool {
	if t := s.Peek(); t.Kind != Mark || t.Text != mark {
		return false
	}
	s.Next()
	return true
}

// Expect consumes the next token, which must be the mark.
func (s *Scanner) Expect(mark string) {
	if !s.Accept(mark) {
		s.refuse()
	}
}

// Name consumes the next token, which must be a word, and returns its text.
func (s *Scanner) Name() string {
	if s.Peek().Kind != Word {
		s.refuse()
		return ""
	}
	return s.Next().Text
}

// Amount consumes the next token, which must be a number of at most most, and returns its value.
func (s *Scanner) Amount(most int64) int64 {
	switch t := s.Peek(); {
	case t.Kind != Number:
		s.refuse()
		return 0
	case t.Value < 0 || t.Value > most:
		s.Fail(api.ErrRange)
		return 0
	}
	return s.Next().Value
}

// refuse fails because the next token is of the wrong kind or missing. What Peek returns does not tell which of them, since
// a list may contain the zero Token.
func (s *Scanner) refuse() {
	if s.left() == 0 {
		s.Fail(api.ErrShort)
		return
	}
	s.Fail(api.ErrFormat)
}

// Fail sets the error of the scanner to e if it is OK so far.
func (s *Scanner) Fail(e api.Errno) {
	if s.Err() != api.OK || e == api.OK {
		return
	}
	s.err = e
	s.rest = nil
}

// Err returns the error of the scanner.
func (s *Scanner) Err() api.Errno {
	if s == nil {
		return api.ErrNone
	}
	return s.err
}

// End returns the error of the scanner, or ErrLong if tokens are left. It does not change the scanner.
func (s *Scanner) End() api.Errno {
	if s.left() > 0 {
		return api.ErrLong
	}
	return s.Err()
}
