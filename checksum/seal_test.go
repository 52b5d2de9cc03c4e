package checksum_test

import (
	"encoding/binary"
	"hash/crc32"
	"strings"
	"testing"

	"saleroom/api"
	"saleroom/checksum"
)

// P3.5, and example 1 of the chapter
func TestSeal(t *testing.T) {
	cases := []struct{ s, want string }{
		{"123456789", "\x83\x92\x06\xe3123456789"},
		{"", "\x00\x00\x00\x00"},
		{"a", "\x30\x43\xd0\xc1a"},
		{"\x00", "\x51\x53\x7d\x52\x00"},
	}
	for _, c := range cases {
		if got := checksum.Seal(c.s); got != c.want {
			t.Errorf("Seal(%q) = %q, want %q", c.s, got, c.want)
		}
	}
}

// P3.5: against another implementation
func TestSealOfManyStrings(t *testing.T) {
	table := crc32.MakeTable(crc32.Castagnoli)
	for _, s := range manyStrings() {
		crc := binary.LittleEndian.AppendUint32(nil, crc32.Checksum([]byte(s), table))
		if got, want := checksum.Seal(s), string(crc)+s; got != want {
			t.Fatalf("Seal(%q) = %q, want %q", s, got, want)
		}
	}
}

// P3.5
func TestOpen(t *testing.T) {
	cases := []struct{ s, want string }{
		{"\x00\x00\x00\x00", ""},
		{"\x83\x92\x06\xe3123456789", "123456789"},
		{"\x51\x53\x7d\x52\x00", "\x00"},
	}
	for _, c := range cases {
		if got, e := checksum.Open(c.s); e != api.OK || got != c.want {
			t.Errorf("Open(%q) = %q, %v, want %q", c.s, got, e, c.want)
		}
	}
}

// P3.5, R2
func TestOpenOfShortStrings(t *testing.T) {
	for _, s := range []string{"", "\x00", "\x00\x00", "\x00\x00\x00", "abc", "\u20ac", "\xff\xff\xff"} {
		if got, e := checksum.Open(s); e != api.ErrShort || got != "" {
			t.Errorf("Open(%q) = %q, %v", s, got, e)
		}
	}
}

// P3.5, R2
func TestOpenWithWrongChecksum(t *testing.T) {
	for _, s := range []string{
		"\x00\x00\x00\x01",
		"\x01\x00\x00\x00",
		"\xff\xff\xff\xff",
		"\x00\x00\x00\x00\x00",
		"\x00\x00\x00\x00a",
		"123456789",
		"123456789\x83\x92\x06\xe3",
		"\xe3\x06\x92\x83123456789",
		"\x83\x92\x06\xe312345678",
		"\x83\x92\x06\xe31234567890",
		"\x7c\x6d\xf9\x1c123456789",
		strings.Repeat("\x00", 100),
	} {
		if got, e := checksum.Open(s); e != api.ErrChecksum || got != "" {
			t.Errorf("Open(%q) = %q, %v", s, got, e)
		}
	}
}

// P3.7
func TestOpenInvertsSeal(t *testing.T) {
	for _, s := range manyStrings() {
		if got, e := checksum.Open(checksum.Seal(s)); e != api.OK || got != s {
			t.Fatalf("Open of Seal of %q = %q, %v", s, got, e)
		}
		if got, e := checksum.Open(checksum.Seal(checksum.Seal(s))); e != api.OK || got != checksum.Seal(s) {
			t.Fatalf("Open of Seal of Seal of %q = %q, %v", s, got, e)
		}
	}
}

// P3.7: a change in the checksum or in the string
func TestOpenDetectsChanges(t *testing.T) {
	for _, s := range []string{"", "a", "\x00", "\xff\xff\xff\xff", "123456789", "\u20ac\xff\x00", strings.Repeat("s", 100)} {
		changes(checksum.Seal(s), func(changed string) {
			if got, e := checksum.Open(changed); e != api.ErrChecksum || got != "" {
				t.Fatalf("Open(%q) = %q, %v, changed from Seal of %q", changed, got, e, s)
			}
		})
	}
}
