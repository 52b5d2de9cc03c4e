package fraction

import (
	"strings"

	"saleroom/api"
	"saleroom/natural"
)

// maxText is the greatest number of bytes that Parse accepts: a sign, a slash and twice the digits that natural accepts.
const maxText = 1202

// A writing has the parts of the text of a fraction. It tells a denominator of 1 that is written from one that is not.
type writing struct {
	minus bool
	num   string
	slash bool
	den   string
}

// Format returns a as text.
func Format(a api.Frac) string {
	w := write(a)
	text := w.num
	if w.minus {
		text = "-" + text
	}
	if w.slash {
		text += "/" + w.den
	}
	return text
}

// Parse returns the fraction f for which Format(f) is s.
func Parse(s string) (api.Frac, api.Errno) {
	if len(s) > maxText {
		return api.Frac{}, api.ErrLong
	}
	w := split(s)
	f, e := read(w)
	// A fraction has one form only: 2/4, 5/1 and -0 can be read, but would be written in another way.
	if e != api.OK || write(f) != w {
		return api.Frac{}, api.ErrFormat
	}
	return f, api.OK
}

// write returns the writing of a.
func write(a api.Frac) writing {
	w := writing{minus: a.Neg, num: natural.Format(a.Num)}
	if !isOne(a.Den) {
		w.slash = true
		w.den = natural.Format(a.Den)
	}
	return w
}

// split returns the parts of s, whether or not they are numbers.
func split(s string) writing {
	var w writing
	s, w.minus = strings.CutPrefix(s, "-")
	w.num, w.den, w.slash = strings.Cut(s, "/")
	return w
}

// read returns the number that w denotes, even if it is not in lowest terms.
func read(w writing) (api.Frac, api.Errno) {
	num, e := natural.Parse(w.num)
	if e != api.OK {
		return api.Frac{}, e
	}
	if !w.slash {
		return Make(w.minus, num, natural.FromUint(1))
	}
	den, e := natural.Parse(w.den)
	if e != api.OK {
		return api.Frac{}, e
	}
	return Make(w.minus, num, den)
}
