package setup

import (
	"strconv"
	"strings"

	"saleroom/api"
)

// The first words of the lines.
const (
	productLine = "product"
	bidderLine  = "bidder"
	capLine     = "cap"
	asideLine   = "aside"
)

// everyName stands for every bidder in the line of a cap.
const everyName = "*"

// Format returns the text of s.
func Format(s api.Setup) (string, api.Errno) {
	if e := Check(s); e != api.OK {
		return "", e
	}
	var text strings.Builder
	write := func(words ...string) {
		text.WriteString(strings.Join(words, " "))
		text.WriteByte('\n')
	}
	for _, p := range s.Products {
		write(productLine, p.Name, digits(p.Supply), digits(p.Reserve), digits(p.Points), digits(p.Group))
	}
	for _, b := range s.Bidders {
		write(bidderLine, b.Name, digits(b.Class), digits(b.Budget), digits(b.Points))
	}
	for _, c := range s.Caps {
		name := everyName
		if c.Bidder != everyBidder {
			name = s.Bidders[c.Bidder].Name
		}
		write(capLine, name, digits(c.Group), digits(c.Units))
	}
	for _, a := range s.Asides {
		write(asideLine, s.Products[a.Product].Name, digits(a.Class), digits(a.Units))
	}
	return text.String(), api.OK
}

// digits returns n in decimal.
func digits[N int | int64](n N) string {
	return strconv.FormatInt(int64(n), 10)
}

// Parse returns the setup that a text describes, or the number of the first wrong line, from 1 on, and its error.
func Parse(text string) (api.Setup, int, api.Errno) {
	if len(text) > api.MaxText {
		return api.Setup{}, 0, api.ErrLong
	}
	var s api.Setup
	number := 0
next:
	line, rest, more := strings.Cut(text, "\n")
	number++
	if line != "" {
		if e := parseLine(&s, strings.Split(line, " ")); e != api.OK {
			return api.Setup{}, number, e
		}
	}
	if more {
		text = rest
		goto next
	}
	if e := Check(s); e != api.OK {
		return api.Setup{}, 0, e
	}
	return s, 0, api.OK
}

// parseLine adds the element that a line describes to s, or returns the first error of its words.
func parseLine(s *api.Setup, words []string) api.Errno {
	switch required := lineLength(words[0]); {
	case required == 0:
		return api.ErrCommand
	case required != len(words):
		return api.ErrFormat
	}
	f := fields{words: words[1:]}
	switch words[0] {
	case productLine:
		s.Products = append(s.Products, f.product())
	case bidderLine:
		s.Bidders = append(s.Bidders, f.bidder())
	case capLine:
		s.Caps = append(s.Caps, f.limit(s.Bidders))
	case asideLine:
		s.Asides = append(s.Asides, f.aside(s.Products))
	}
	return f.err
}

// lineLength returns the number of words of the lines with this first word, or 0 if no line begins with it.
func lineLength(first string) int {
	switch first {
	case productLine:
		return 6
	case bidderLine:
		return 5
	case capLine, asideLine:
		return 4
	}
	return 0
}
