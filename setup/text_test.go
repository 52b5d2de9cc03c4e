package setup_test

import (
	"strconv"
	"strings"
	"testing"

	"saleroom/api"
	"saleroom/setup"
)

// expectFormat expects the text from Format(s).
func expectFormat(t *testing.T, s api.Setup, want string) {
	t.Helper()
	if got, e := setup.Format(s); got != want || e != api.OK {
		t.Errorf("Format(%v) = %q, %v, want %q", s, got, e, want)
	}
}

// P10.2: the example of the chapter, elements of every kind, and lists of one element
func TestFormat(t *testing.T) {
	expectFormat(t, example(), exampleText)
	expectFormat(t, sale(), saleText)
	s := api.Setup{
		Products: []api.Product{{Name: "z_9", Supply: 4, Reserve: 1000000, Points: 1000, Group: 4}},
		Bidders:  []api.Bidder{{Name: "abcdefghijkl", Class: 4, Budget: 1000000, Points: 24000}},
	}
	expectFormat(t, s, "product z_9 4 1000000 1000 4\nbidder abcdefghijkl 4 1000000 24000\n")
	s.Caps = []api.Cap{{Bidder: 0, Group: 4, Units: 24}, {Bidder: -1, Group: 0, Units: 0}}
	s.Asides = []api.Aside{{Product: 0, Class: 4, Units: 4}}
	expectFormat(t, s, "product z_9 4 1000000 1000 4\nbidder abcdefghijkl 4 1000000 24000\ncap abcdefghijkl 4 24\ncap * 0 0\naside z_9 4 4\n")
}

// P10.2, R2: the error of Check, and no text with it
func TestFormatOfBadSetups(t *testing.T) {
	bad := func(s api.Setup, want api.Errno) {
		if got, e := setup.Format(s); got != "" || e != want {
			t.Errorf("Format(%v) = %q, %v, want %v", s, got, e, want)
		}
	}
	badSetups(bad)
	bad(api.Setup{}, api.ErrShort)
}

// expectParse expects the setup from Parse(text).
func expectParse(t *testing.T, text string, want api.Setup) {
	t.Helper()
	if got, line, e := setup.Parse(text); !equal(got, want) || line != 0 || e != api.OK {
		t.Errorf("Parse(%.200q) = %v, %d, %v, want %v", text, got, line, e, want)
	}
}

// expectParseError expects the number of a line and the error from Parse(text), and no setup with them.
func expectParseError(t *testing.T, text string, line int, e api.Errno) {
	t.Helper()
	if s, n, err := setup.Parse(text); !isZero(s) || n != line || err != e {
		t.Errorf("Parse(%.200q) = %v, %d, %v, want %d, %v", text, s, n, err, line, e)
	}
}

// P10.2
func TestParse(t *testing.T) {
	expectParse(t, exampleText, example())
	expectParse(t, saleText, sale())
}

// P10.2: the lines are in any order as long as a name is defined before it is used.
func TestParseOfOtherOrders(t *testing.T) {
	expectParse(t, "bidder y 1 0 2\nbidder x 0 0 2\nproduct a 2 3 1 0\naside a 1 1\n", api.Setup{
		Products: example().Products,
		Bidders:  []api.Bidder{{Name: "y", Class: 1, Points: 2}, {Name: "x", Points: 2}},
		Asides:   example().Asides,
	})
	expectParse(t, `cap * 1 3
product a 2 3 1 0
bidder x 0 0 2
product b 3 0 5 1
aside b 2 3
bidder y 1 500 20
aside a 1 1
bidder z 2 0 0
cap z 0 0
product c 1 7 0 1
cap y 1 2
`, sale())
}

// P10.2: a name is that of a product or of a bidder, depending on the line, also if it is a word with a meaning elsewhere.
func TestParseOfNames(t *testing.T) {
	s := sale()
	s.Bidders[0].Name, s.Bidders[1].Name, s.Bidders[2].Name = "b", "a", "product"
	s.Products[2].Name = "aside"
	s.Asides = append(s.Asides, api.Aside{Product: 2, Class: 3, Units: 1})
	expectParse(t, `product a 2 3 1 0
product b 3 0 5 1
product aside 1 7 0 1
bidder b 0 0 2
bidder a 1 500 20
bidder product 2 0 0
cap * 1 3
cap product 0 0
cap a 1 2
aside b 2 3
aside a 1 1
aside aside 3 1
`, s)
	long := example()
	long.Products[0].Name, long.Bidders[0].Name = "a_2345678901", "z_2345678901"
	expectParse(t, "product a_2345678901 2 3 1 0\nbidder z_2345678901 0 0 2\nbidder y 1 0 2\naside a_2345678901 1 1\n", long)
}

// P10.2: empty lines are ignored, and the last line feed may be missing.
func TestParseOfEmptyLines(t *testing.T) {
	for _, text := range []string{
		strings.TrimSuffix(exampleText, "\n"),
		"\n" + exampleText,
		"\n\n\n" + exampleText + "\n\n",
		strings.ReplaceAll(exampleText, "\n", "\n\n"),
		strings.ReplaceAll(exampleText, "\n", "\n\n\n\n"),
		"\n" + strings.TrimSuffix(exampleText, "\n"),
	} {
		expectParse(t, text, example())
	}
}

// P10.2: the size of a text
func TestParseOfLongTexts(t *testing.T) {
	most := exampleText + strings.Repeat("\n", textSize-len(exampleText))
	expectParse(t, most, example())
	expectParseError(t, most+"\n", 0, api.ErrLong)
	expectParseError(t, "\n"+most, 0, api.ErrLong)
	expectParseError(t, strings.Repeat("\n", textSize), 0, api.ErrShort)
	expectParseError(t, strings.Repeat("x", textSize), 1, api.ErrCommand)
	expectParseError(t, strings.Repeat("x", textSize+1), 0, api.ErrLong)
	expectParseError(t, strings.Repeat("\n", textSize-1)+"x", textSize, api.ErrCommand)
	expectParseError(t, strings.Repeat(" ", textSize), 1, api.ErrCommand)
	expectParseError(t, "cap"+strings.Repeat(" ", textSize-3), 1, api.ErrFormat)
	expectParseError(t, "product "+strings.Repeat("a", textSize-16)+" 1 0 0 0", 1, api.ErrName)
	expectParseError(t, "product a "+strings.Repeat("1", textSize-16)+" 0 0 0", 1, api.ErrRange)
}

// P10.2: the error of each line, behind lines that define the products a and b and the bidders x and y
func TestParseErrors(t *testing.T) {
	const before = "product a 2 0 0 0\n\nproduct b 1 0 0 0\nbidder x 0 0 0\nbidder y 0 0 0\n"
	cases := []struct {
		line string
		want api.Errno
	}{
		{"item a 1 0 0 0", api.ErrCommand},
		{" ", api.ErrCommand},
		{"  ", api.ErrCommand},
		{" product c 1 0 0 0", api.ErrCommand},
		{" cap x 0 1", api.ErrCommand},
		{"Product c 1 0 0 0", api.ErrCommand},
		{"products c 1 0 0 0", api.ErrCommand},
		{"produc", api.ErrCommand},
		{"product\tc 1 0 0 0", api.ErrCommand},
		{"bidder:", api.ErrCommand},
		{"caps * 0 1", api.ErrCommand},
		{"asides a 1 1", api.ErrCommand},
		{"*", api.ErrCommand},
		{"0", api.ErrCommand},
		{"\r", api.ErrCommand},
		{"\x00", api.ErrCommand},
		{"\xff", api.ErrCommand},
		{"ä", api.ErrCommand},

		{"product", api.ErrFormat},
		{"product ", api.ErrFormat},
		{"product c 1 0 0", api.ErrFormat},
		{"product c 1 0 0 0 ", api.ErrFormat},
		{"product c 1 0 0 0 0", api.ErrFormat},
		{"product  c 1 0 0 0", api.ErrFormat},
		{"product c 1 0  0 0", api.ErrFormat},
		{"product C x x x x x", api.ErrFormat},
		{"bidder", api.ErrFormat},
		{"bidder z 0 0", api.ErrFormat},
		{"bidder z 0 0 0 ", api.ErrFormat},
		{"bidder z 0 0 0 0", api.ErrFormat},
		{"bidder Z 0 0 0 0", api.ErrFormat},
		{"cap", api.ErrFormat},
		{"cap x 0", api.ErrFormat},
		{"cap x 0 1 ", api.ErrFormat},
		{"cap x 0 1 2", api.ErrFormat},
		{"cap z 0", api.ErrFormat},
		{"cap * 0", api.ErrFormat},
		{"aside", api.ErrFormat},
		{"aside a 1", api.ErrFormat},
		{"aside a 1 1 ", api.ErrFormat},
		{"aside a 1 1 1", api.ErrFormat},
		{"aside z 1 1 1", api.ErrFormat},

		{"product  1 0 0 0", api.ErrName},
		{"product * 1 0 0 0", api.ErrName},
		{"product C x 0 0 0", api.ErrName},
		{"product 1 1234567890 0 0 0", api.ErrName},
		{"product abcdefghijklm 1 0 0 0", api.ErrName},
		{"bidder  0 0 0", api.ErrName},
		{"bidder * 0 0 0", api.ErrName},
		{"bidder 7 x x x", api.ErrName},

		{"cap z 0 1", api.ErrNone},
		{"cap a 0 1", api.ErrNone},
		{"cap  0 1", api.ErrNone},
		{"cap ** 0 1", api.ErrNone},
		{"cap X 0 1", api.ErrNone},
		{"cap xy 0 1", api.ErrNone},
		{"cap abcdefghijklm 0 1", api.ErrNone},
		{"cap 0 x 1", api.ErrNone},
		{"cap z 1234567890 x", api.ErrNone},
		{"aside c 1 1", api.ErrNone},
		{"aside x 1 1", api.ErrNone},
		{"aside * 1 1", api.ErrNone},
		{"aside  1 1", api.ErrNone},
		{"aside A 01 1", api.ErrNone},
		{"aside 1 1 x", api.ErrNone},
	}
	for _, c := range cases {
		expectParseError(t, before+c.line, 6, c.want)
		expectParseError(t, before+c.line+"\n", 6, c.want)
		expectParseError(t, before+"\n"+c.line+"\nitem\n", 7, c.want)
	}
	expectParseError(t, "item a 1 0 0 0", 1, api.ErrCommand)
	expectParseError(t, "cap x 0 1", 1, api.ErrNone)
	expectParseError(t, "cap x 0 1\nbidder x 0 0 0\nproduct a 1 0 0 0\n", 1, api.ErrNone)
	expectParseError(t, "bidder x 0 0 0\naside a 1 1\nproduct a 1 0 0 0\n", 2, api.ErrNone)
	expectParseError(t, "bidder x 0 0 0\n\n\nbidder Y 0 0 0\nitem\n", 4, api.ErrName)
}

// lines are the lines of every kind, with <n> at the place of each number, and the lines that define their names.
var lines = []struct{ before, line string }{
	{"", "product p <n> <n> <n> <n>"},
	{"", "bidder p <n> <n> <n>"},
	{"bidder p 0 0 0\n", "cap p <n> <n>"},
	{"", "cap * <n> <n>"},
	{"product p 1 0 0 0\n", "aside p <n> <n>"},
}

// eachNumber calls use with texts in which word is one of the numbers of a line, and the number of that line. The numbers
// before word are as great as a number can be; the one after it is after, and the others are valid.
func eachNumber(word, after string, use func(text string, line int)) {
	for _, l := range lines {
		for line := l.line; strings.Contains(line, "<n>"); line = strings.Replace(line, "<n>", "999999999", 1) {
			text := strings.Replace(line, "<n>", word, 1)
			text = strings.Replace(text, "<n>", after, 1)
			use(l.before+strings.ReplaceAll(text, "<n>", "1"), 1+strings.Count(l.before, "\n"))
		}
	}
}

// P10.2: words that are no numbers, at every place
func TestParseOfBadNumbers(t *testing.T) {
	words := []string{"", "x", "a1", "1a", "-1", "-0", "+1", "00", "01", "007", "0x1", "1.0", "1e3", "1_0", "0_1", "١", "1\r", "\t1", "1\x00", "é",
		"0123456789", "00000000000", "12345678901x", "x12345678901", "1234567890-", "1,000", "*", "1/2", "12:3", "/", ":"}
	for _, word := range words {
		eachNumber(word, "1234567890", func(text string, line int) { expectParseError(t, text, line, api.ErrFormat) })
	}
	for _, word := range []string{"1234567890", "1000000000", "9999999999", "4294967296", "18446744073709551616", "18446744073709551617", strings.Repeat("9", 100)} {
		eachNumber(word, "x", func(text string, line int) { expectParseError(t, text, line, api.ErrRange) })
	}
}

// P10.2: every byte in a number
func TestParseOfBytesInNumbers(t *testing.T) {
	for c := range 256 {
		if c == ' ' || c == '\n' || '0' <= c && c <= '9' {
			continue
		}
		for _, word := range []string{string([]byte{byte(c)}), string([]byte{'1', byte(c)}), string([]byte{byte(c), '1'}), string([]byte{'1', byte(c), '1'})} {
			eachNumber(word, "1234567890", func(text string, line int) { expectParseError(t, text, line, api.ErrFormat) })
		}
	}
}

// P10.2: a number with up to 9 digits is a number, even if Check does not accept it.
func TestParseOfGreatNumbers(t *testing.T) {
	const before = "product a 2 0 0 0\nbidder x 0 0 0\n"
	for _, word := range []string{"100000000", "999999999", "536870912", "10000001"} {
		for _, line := range []string{"product b # 0 0 0", "product b 1 # 0 0", "product b 1 0 # 0", "product b 1 0 0 #", "bidder y # 0 0", "bidder y 0 # 0",
			"bidder y 0 0 #", "cap x # 1", "cap * 0 #", "aside a # 1", "aside a 1 #"} {
			expectParseError(t, before+strings.Replace(line, "#", word, 1), 0, api.ErrRange)
		}
	}
	s := example()
	s.Products[0].Reserve, s.Bidders[0].Budget = 1000000, 1000000
	expectParse(t, "product a 2 1000000 1 0\nbidder x 0 1000000 2\nbidder y 1 0 2\naside a 1 1", s)
}

// P10.2: the errors of Check, with the line number 0, and only if no line is wrong
func TestParseErrorsOfCheck(t *testing.T) {
	const before = "product a 2 0 0 0\nproduct b 1 0 0 0\nbidder x 0 0 0\n"
	var many []string
	for n := range 17 {
		many = append(many, "cap * "+strconv.Itoa(n)+" 1\n")
	}
	cases := []struct {
		text string
		want api.Errno
	}{
		{"", api.ErrShort},
		{"\n", api.ErrShort},
		{"product a 1 0 0 0\n", api.ErrShort},
		{"bidder x 0 0 0\n", api.ErrShort},
		{"cap * 0 1\n", api.ErrShort},
		{before + "product a 1 0 0 0\n", api.ErrExists},
		{before + "product a 2 0 0 0\naside a 1 1\n", api.ErrExists},
		{before + "bidder x 0 0 0\ncap x 0 1\n", api.ErrExists},
		{before + "product c 5 0 0 0\n", api.ErrRange},
		{before + "product c 4 0 0 0\nproduct d 4 0 0 0\nproduct e 4 0 0 0\nproduct f 4 0 0 0\n", api.ErrLimit},
		{before + "product c 1 0 0 0\nproduct d 1 0 0 0\nproduct e 1 0 0 0\nproduct f 1 0 0 0\nproduct g 1 0 0 0\n", api.ErrLong},
		{before + strings.Repeat("bidder x 0 0 0\n", 8), api.ErrLong},
		{before + strings.Repeat("cap x 0 0\n", 17), api.ErrLong},
		{before + strings.Join(many, ""), api.ErrLong},
		{before + strings.Join(many[:16], ""), api.ErrRange},
		{before + strings.Join(many[:5], "") + "cap * 4 24\n", api.ErrExists},
		{before + strings.Repeat("aside a 1 1\n", 7), api.ErrLong},
		{before + "aside a 1 1\naside b 1 1\naside a 2 1\n", api.ErrExists},
		{before + "aside a 0 1\n", api.ErrRange},
		{before + "aside b 1 2\n", api.ErrRange},
		{before + "cap x 5 1\n", api.ErrRange},
		{before + "cap x 1 25\n", api.ErrRange},
	}
	for _, c := range cases {
		expectParseError(t, c.text, 0, c.want)
		wrong := strings.TrimSuffix(c.text, "\n") + "\n\nitem\n"
		expectParseError(t, wrong, strings.Count(wrong, "\n"), api.ErrCommand)
	}
}
