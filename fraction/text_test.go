package fraction_test

import (
	"strings"
	"testing"

	"saleroom/api"
	"saleroom/fraction"
)

// P2.16, P2.17
func TestFormatAndParse(t *testing.T) {
	for _, text := range []string{
		"-3/4", "5", "0", "1", "-1", "1/2", "-1/2", "3/2", "10", "100/7", "-10/3", "1/18446744073709551616", "18446744073709551616",
		"-18446744073709551616/18446744073709551615",
	} {
		want := frac(text)
		if got := fraction.Format(want); got != text {
			t.Errorf("Format(%v) = %q, want %q", want, got, text)
		}
		got, e := fraction.Parse(text)
		if e != api.OK {
			t.Fatalf("Parse(%q): %v", text, e)
		}
		expect(t, "Parse of "+text, got, want)
	}
	if got := fraction.Format(api.Frac{Num: api.Nat{}, Den: api.Nat{1}}); got != "0" {
		t.Errorf("Format of zero with an empty list = %q", got)
	}
}

// P2.17
func TestParseErrors(t *testing.T) {
	for _, text := range []string{
		"", "-", "/", "-/", "--1", "+1", "-+1", "1/", "/1", "-/2", "1//2", "1/2/3", "1/2/", "/1/2",
		"2/4", "-2/4", "6/3", "5/1", "-5/1", "0/1", "0/5", "-0", "-0/1", "-0/7", "1/0", "-1/0", "0/0", "1/1",
		"00", "01", "-01", "01/2", "1/02", "1/00", "1/-2", "-1/-2", "1/+2", "1-", "1-/2", "1/2-",
		" 1", "1 ", "1 /2", "1/ 2", "1/2\n", "1/2 ", "- 1", "1.5", "1,5", "1e3", "0x1", "1_0", "x", "1/x", "x/2", "1:2",
		"\x00", "1\x00", "\xff", "\u0663", "\u22121", "1\u20442", "\u00bd", "Inf", "NaN",
	} {
		expectError(t, text, api.ErrFormat)
	}
}

func expectError(t *testing.T, text string, want api.Errno) {
	t.Helper()
	if f, e := fraction.Parse(text); e != want || !isNothing(f) {
		t.Errorf("Parse(%q) = %v, %v, want %v", text, f, e, want)
	}
}

// P2.17: 600 digits on each side are the most, and with a sign and a slash they have 1202 bytes.
func TestParseOfLongTexts(t *testing.T) {
	nines, power := digits("9", "9", 600), digits("1", "0", 600)
	for _, text := range []string{nines, "-" + nines, nines + "/" + power, "-" + nines + "/" + power, power + "/" + nines, "1/" + nines} {
		f, e := fraction.Parse(text)
		if e != api.OK {
			t.Fatalf("Parse of %d bytes: %v", len(text), e)
		}
		expect(t, "Parse of a long text", f, frac(text))
		if fraction.Format(f) != text {
			t.Fatalf("%s became %s", text, fraction.Format(f))
		}
	}
	longer := digits("9", "9", 601)
	for _, text := range []string{
		longer, "-" + longer, longer + "/" + power, power + "/" + longer, "1/" + longer, longer + "/2", digits("9", "9", 1202),
		"-" + longer + "/" + digits("1", "0", 599), strings.Repeat("x", 1202), strings.Repeat("/", 1202), strings.Repeat("0", 1202),
		"-" + power + "/" + power,
	} {
		expectError(t, text, api.ErrFormat)
	}
	for _, text := range []string{
		digits("9", "9", 1203), "-" + longer + "/" + power, "-" + nines + "/" + digits("1", "0", 601), strings.Repeat("x", 1203),
		strings.Repeat("/", 1203), "-" + nines + "/" + power + " ", digits("9", "9", 10000), strings.Repeat("-", 1203),
	} {
		expectError(t, text, api.ErrLong)
	}
}

// P2.16: Format has no limit of its own.
func TestFormatOfLongFractions(t *testing.T) {
	text := "-" + digits("1", "0", 3001) + "/" + digits("9", "9", 2000)
	if got := fraction.Format(frac(text)); got != text {
		t.Errorf("%s became %s", text, got)
	}
}

// P2.16, P2.17
func TestTextAndBack(t *testing.T) {
	source := newSource()
	all := edgeFractions()
	for range 1000 {
		all = append(all, someFraction(source, 100))
	}
	for _, f := range all {
		text := fraction.Format(f)
		if want := toRat(f).RatString(); text != want {
			t.Fatalf("Format(%v) = %q, want %q", f, text, want)
		}
		back, e := fraction.Parse(text)
		if e != api.OK {
			t.Fatalf("Parse(%q): %v", text, e)
		}
		expect(t, "Parse of Format", back, f)
	}
}

// P2.17: of all texts that are this short, those are accepted that are written in the only form.
func TestParseOfAllShortTexts(t *testing.T) {
	texts := []string{""}
	for range 4 {
		var longer []string
		for _, text := range texts {
			for _, c := range "-/0124" {
				longer = append(longer, text+string(c))
			}
		}
		texts = longer
		for _, text := range texts {
			checkShortText(t, text)
		}
	}
}

func checkShortText(t *testing.T, text string) {
	t.Helper()
	f, e := fraction.Parse(text)
	want := api.ErrFormat
	if isWrittenWell(text) {
		want = api.OK
	}
	if e != want || e == api.OK && fraction.Format(f) != text || e != api.OK && !isNothing(f) {
		t.Errorf("Parse(%q) = %v, %v", text, f, e)
	}
}

// isWrittenWell asks another implementation, but only for texts that have the shape of a fraction with a denominator
// other than 0, since rat panics for the rest.
func isWrittenWell(text string) bool {
	size := strings.TrimPrefix(text, "-")
	if strings.Trim(size, "/0124") != "" || strings.HasPrefix(size, "/") || strings.HasSuffix(size, "/") || size == "" {
		return false
	}
	num, den, slash := strings.Cut(size, "/")
	if strings.Contains(den, "/") || strings.Trim(num, "0") == "" && num != "0" || slash && strings.Trim(den, "0") == "" {
		return false
	}
	return rat(text).RatString() == text
}
