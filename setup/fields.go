package setup

import (
	"saleroom/api"
	"saleroom/catalog"
	"saleroom/lexer"
	"saleroom/roster"
)

// maxDigits is the greatest number of digits of a number.
const maxDigits = 9

// fields has the words of a line that have not been read, and the first error of those that have been.
type fields struct {
	words []string
	err   api.Errno
}

// next returns the first word that has not been read.
func (f *fields) next() string {
	word := f.words[0]
	f.words = f.words[1:]
	return word
}

// fail keeps e if it is the first error.
func (f *fields) fail(e api.Errno) {
	if f.err == api.OK {
		f.err = e
	}
}

// The calls within the literals below are made from left to right, and so in the order of the words.

// product reads the words of a product.
func (f *fields) product() api.Product {
	return api.Product{
		Name:    f.name(),
		Supply:  f.number(),
		Reserve: int64(f.number()),
		Points:  f.number(),
		Group:   f.number(),
	}
}

// bidder reads the words of a bidder.
func (f *fields) bidder() api.Bidder {
	return api.Bidder{
		Name:   f.name(),
		Class:  f.number(),
		Budget: int64(f.number()),
		Points: f.number(),
	}
}

// limit reads the words of a cap.
func (f *fields) limit(bidders []api.Bidder) api.Cap {
	return api.Cap{
		Bidder: f.capped(bidders),
		Group:  f.number(),
		Units:  f.number(),
	}
}

// aside reads the words of a set-aside.
func (f *fields) aside(products []api.Product) api.Aside {
	return api.Aside{
		Product: f.reserved(products),
		Class:   f.number(),
		Units:   f.number(),
	}
}

// name reads the name of a new product or bidder.
func (f *fields) name() string {
	word := f.next()
	if !lexer.IsName(word) {
		f.fail(api.ErrName)
	}
	return word
}

// capped reads the bidder of a cap.
func (f *fields) capped(bidders []api.Bidder) int {
	word := f.next()
	if word == everyName {
		return everyBidder
	}
	i, found := roster.Find(bidders, word)
	if !found {
		f.fail(api.ErrNone)
	}
	return i
}

// reserved reads the product of a set-aside.
func (f *fields) reserved(products []api.Product) int {
	k, found := catalog.Find(products, f.next())
	if !found {
		f.fail(api.ErrNone)
	}
	return k
}

// number reads a number.
func (f *fields) number() int {
	word := f.next()
	switch {
	case !isNumber(word):
		f.fail(api.ErrFormat)
		return 0
	case len(word) > maxDigits:
		f.fail(api.ErrRange)
		return 0
	}
	n := 0
	for _, c := range word {
		n = 10*n + int(c-'0')
	}
	return n
}

// isNumber reports whether a word consists of digits, the first of which is not 0 unless it is the only one.
func isNumber(word string) bool {
	if word == "" || word[0] == '0' && word != "0" {
		return false
	}
	for _, c := range word {
		if c < '0' || c > '9' {
			return false
		}
	}
	return true
}
