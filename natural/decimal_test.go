package natural

import (
	"strings"
	"testing"

	"saleroom/api"
)

// P1.12
func TestFormat(t *testing.T) {
	cases := []struct {
		a    api.Nat
		want string
	}{
		{nil, "0"},
		{api.Nat{}, "0"},
		{api.Nat{7}, "7"},
		{api.Nat{10}, "10"},
		{api.Nat{999999999}, "999999999"},
		{api.Nat{1000000000}, "1000000000"},
		{api.Nat{4294967295}, "4294967295"},
		{api.Nat{0, 1}, "4294967296"},
		{FromUint(1000000000000000000), "1000000000000000000"},
		{FromUint(7000000000000000008), "7000000000000000008"},
		{api.Nat{0, 0, 1}, "18446744073709551616"},
	}
	for _, c := range cases {
		if got := Format(c.a); got != c.want {
			t.Errorf("Format(%v) = %s, want %s", c.a, got, c.want)
		}
	}
}

// P1.13
func TestParse(t *testing.T) {
	cases := []struct {
		s    string
		want api.Nat
	}{
		{"0", nil},
		{"1", api.Nat{1}},
		{"9", api.Nat{9}},
		{"10", api.Nat{10}},
		{"1234567890", api.Nat{1234567890}},
		{"4294967295", api.Nat{4294967295}},
		{"4294967296", api.Nat{0, 1}},
		{"18446744073709551615", api.Nat{0xffffffff, 0xffffffff}},
		{"18446744073709551616", api.Nat{0, 0, 1}},
	}
	for _, c := range cases {
		expect(t, "Parse of "+c.s, parse(t, c.s), c.want)
	}
}

// P1.13
func TestParseErrors(t *testing.T) {
	cases := []struct {
		s    string
		want api.Errno
	}{
		{"", api.ErrShort},
		{strings.Repeat("1", 601), api.ErrLong},
		{strings.Repeat("0", 601), api.ErrLong},
		{strings.Repeat("x", 601), api.ErrLong},
		{strings.Repeat("x", 600), api.ErrFormat},
		{strings.Repeat("0", 600), api.ErrFormat},
		{strings.Repeat("1", 599) + "/", api.ErrFormat},
		{"00", api.ErrFormat},
		{"01", api.ErrFormat},
		{"0x1", api.ErrFormat},
		{"-1", api.ErrFormat},
		{"-0", api.ErrFormat},
		{"+1", api.ErrFormat},
		{" 1", api.ErrFormat},
		{"1 ", api.ErrFormat},
		{"1\n", api.ErrFormat},
		{"1_000", api.ErrFormat},
		{"1.5", api.ErrFormat},
		{"12a", api.ErrFormat},
		{"/", api.ErrFormat},
		{":", api.ErrFormat},
		{"1/2", api.ErrFormat},
		{"1:2", api.ErrFormat},
		{"\x00", api.ErrFormat},
		{"\xff", api.ErrFormat},
		{"\u0663", api.ErrFormat},
	}
	for _, c := range cases {
		if a, e := Parse(c.s); e != c.want || len(a) != 0 {
			t.Errorf("Parse(%q) = %v, %v, want %v", c.s, a, e, c.want)
		}
	}
}

// P1.13, P1.14: exactly 600 bytes are accepted.
func TestParseOfLongestNumber(t *testing.T) {
	for _, s := range []string{"1" + strings.Repeat("0", 599), strings.Repeat("9", 600)} {
		if got := Format(parse(t, s)); got != s {
			t.Errorf("%s became %s", s, got)
		}
	}
}

// P1.12 to P1.14: against another implementation
func TestTextAndBack(t *testing.T) {
	source := newSource()
	for range 1000 {
		a := someNumber(source, 62) // less than 600 decimal digits
		s := Format(a)
		if want := toBig(a).String(); s != want {
			t.Fatalf("Format(%v) = %s, want %s", a, s, want)
		}
		expect(t, "Parse of Format", parse(t, s), a)
	}
	for range 1000 {
		s := []byte{byte('1' + source.IntN(9))}
		for range source.IntN(600) {
			s = append(s, byte('0'+source.IntN(10)))
		}
		if got := Format(parse(t, string(s))); got != string(s) {
			t.Fatalf("%s became %s", s, got)
		}
	}
}

// P1.12: Format has no limit of its own.
func TestFormatOfMoreThan600Digits(t *testing.T) {
	for _, n := range []int{2000, 10000} {
		a := power(n)
		if got, want := Format(a), toBig(a).String(); got != want {
			t.Errorf("Format of 2^%d: %s", n, got)
		}
	}
}
