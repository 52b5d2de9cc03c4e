package checksum_test

import (
	"hash/crc32"
	"slices"
	"strings"
	"testing"

	"saleroom/checksum"
)

// P3.1: the examples of the chapter, and those of RFC 3720
func TestCRC(t *testing.T) {
	const ascending = "\x00\x01\x02\x03\x04\x05\x06\x07\x08\x09\x0a\x0b\x0c\x0d\x0e\x0f" +
		"\x10\x11\x12\x13\x14\x15\x16\x17\x18\x19\x1a\x1b\x1c\x1d\x1e\x1f"
	cases := []struct {
		s    string
		want uint32
	}{
		{"123456789", 0xe3069283},
		{"", 0},
		{"\x00", 0x527d5351},
		{"a", 0xc1d04330},
		{strings.Repeat("\x00", 32), 0x8a9136aa},
		{strings.Repeat("\xff", 32), 0x62a8ab43},
		{ascending, 0x46dd794e},
	}
	for _, c := range cases {
		if got := checksum.CRC(c.s); got != c.want {
			t.Errorf("CRC(%q) = %08x, want %08x", c.s, got, c.want)
		}
	}
}

// slowUpdate follows the definition bit by bit.
func slowUpdate(crc uint32, s string) uint32 {
	register := ^crc
	for _, b := range []byte(s) {
		register ^= uint32(b)
		for range 8 {
			out := register & 1
			register >>= 1
			if out == 1 {
				register ^= 0x82f63b78
			}
		}
	}
	return ^register
}

// P3.1: against the definition and another implementation
func TestCRCOfManyStrings(t *testing.T) {
	table := crc32.MakeTable(crc32.Castagnoli)
	for _, s := range manyStrings() {
		got := checksum.CRC(s)
		if want := slowUpdate(0, s); got != want {
			t.Fatalf("CRC(%q) = %08x, by definition %08x", s, got, want)
		}
		if want := crc32.Checksum([]byte(s), table); got != want {
			t.Fatalf("CRC(%q) = %08x, by hash/crc32 %08x", s, got, want)
		}
	}
}

// P3.1: every byte
func TestCRCOfSingleBytes(t *testing.T) {
	for b := range 256 {
		s := string([]byte{byte(b)})
		if got, want := checksum.CRC(s), slowUpdate(0, s); got != want {
			t.Errorf("CRC(%q) = %08x, want %08x", s, got, want)
		}
	}
}

// P3.2: the example of the chapter, in all its divisions
func TestUpdate(t *testing.T) {
	const whole = "123456789"
	for i := range len(whole) + 1 {
		if got := checksum.Update(checksum.CRC(whole[:i]), whole[i:]); got != 0xe3069283 {
			t.Errorf("Update of %q with %q = %08x", whole[:i], whole[i:], got)
		}
	}
}

// edgeSums are checksums, whether or not of a known string.
var edgeSums = []uint32{0, 1, 2, 0xff, 0x100, 0x7fffffff, 0x80000000, 0x82f63b78, 0xe3069283, 0xfffffffe, 0xffffffff}

// P3.2: every crc
func TestUpdateOfAnyChecksum(t *testing.T) {
	source := newSource()
	sums := slices.Clone(edgeSums)
	for range 50 {
		sums = append(sums, source.Uint32())
	}
	table := crc32.MakeTable(crc32.Castagnoli)
	for _, crc := range sums {
		for length := range 20 {
			s := someString(source, length)
			got := checksum.Update(crc, s)
			if want := slowUpdate(crc, s); got != want {
				t.Fatalf("Update(%08x, %q) = %08x, by definition %08x", crc, s, got, want)
			}
			if want := crc32.Update(crc, table, []byte(s)); got != want {
				t.Fatalf("Update(%08x, %q) = %08x, by hash/crc32 %08x", crc, s, got, want)
			}
		}
	}
}

// P3.7
func TestUpdateWithNothing(t *testing.T) {
	for _, crc := range edgeSums {
		if got := checksum.Update(crc, ""); got != crc {
			t.Errorf("Update(%08x, nothing) = %08x", crc, got)
		}
	}
}

// P3.2, P3.7
func TestUpdateInParts(t *testing.T) {
	for _, crc := range edgeSums {
		for _, first := range edgeStrings() {
			for _, second := range []string{"", "\x00", "x", "\xff\xfe", "123456789", "\u20ac"} {
				parts := checksum.Update(checksum.Update(crc, first), second)
				if whole := checksum.Update(crc, first+second); parts != whole {
					t.Fatalf("Update(%08x) with %q and %q = %08x, with both together %08x", crc, first, second, parts, whole)
				}
			}
		}
	}
}
