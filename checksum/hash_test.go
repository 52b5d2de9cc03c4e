package checksum_test

import (
	"encoding/binary"
	"hash/fnv"
	"math"
	"strings"
	"testing"

	"saleroom/checksum"
)

// P3.3: the example of the chapter, and those of FNV's authors
func TestHash(t *testing.T) {
	cases := []struct {
		s    string
		want uint64
	}{
		{"", 14695981039346656037},
		{"a", 0xaf63dc4c8601ec8c},
		{"b", 0xaf63df4c8601f1a5},
		{"\x00", 0xaf63bd4c8601b7df},
		{"foobar", 0x85944171f73967e8},
	}
	for _, c := range cases {
		if got := checksum.Hash(c.s); got != c.want {
			t.Errorf("Hash(%q) = %016x, want %016x", c.s, got, c.want)
		}
	}
}

func otherHash(s string) uint64 {
	hash := fnv.New64a()
	hash.Write([]byte(s))
	return hash.Sum64()
}

// P3.3: against another implementation
func TestHashOfManyStrings(t *testing.T) {
	for _, s := range manyStrings() {
		if got, want := checksum.Hash(s), otherHash(s); got != want {
			t.Fatalf("Hash(%q) = %016x, want %016x", s, got, want)
		}
	}
}

var edgeHashes = []uint64{
	0, 1, 0xff, 0x100, 0x0102030405060708, 1 << 32, 1 << 63, math.MaxInt64, math.MaxUint64 - 1, math.MaxUint64,
	14695981039346656037, 1099511628211,
}

// P3.4: strings written out
func TestChain(t *testing.T) {
	cases := []struct {
		prev  uint64
		s     string
		bytes string
	}{
		{0, "", "\x00\x00\x00\x00\x00\x00\x00\x00" + "\x00\x00\x00\x00\x00\x00\x00\x00"},
		{0, "a", "\x00\x00\x00\x00\x00\x00\x00\x00" + "\x01\x00\x00\x00\x00\x00\x00\x00" + "a"},
		{0x0102030405060708, "ab", "\x08\x07\x06\x05\x04\x03\x02\x01" + "\x02\x00\x00\x00\x00\x00\x00\x00" + "ab"},
		{255, "\u20ac", "\xff\x00\x00\x00\x00\x00\x00\x00" + "\x03\x00\x00\x00\x00\x00\x00\x00" + "\u20ac"},
		{math.MaxUint64, everyByte(), "\xff\xff\xff\xff\xff\xff\xff\xff" + "\x00\x01\x00\x00\x00\x00\x00\x00" + everyByte()},
	}
	for _, c := range cases {
		if got, want := checksum.Chain(c.prev, c.s), checksum.Hash(c.bytes); got != want {
			t.Errorf("Chain(%d, %q) = %016x, want %016x", c.prev, c.s, got, want)
		}
	}
}

// P3.4: against another implementation
func TestChainOfManyRecords(t *testing.T) {
	for _, prev := range edgeHashes {
		for _, s := range manyStrings() {
			bytes := binary.LittleEndian.AppendUint64(nil, prev)
			bytes = binary.LittleEndian.AppendUint64(bytes, uint64(len(s)))
			if got, want := checksum.Chain(prev, s), otherHash(string(bytes)+s); got != want {
				t.Fatalf("Chain(%d, %q) = %016x, want %016x", prev, s, got, want)
			}
		}
	}
}

// P3.4: a chain is not determined by the records' bytes alone.
func TestChainDistinguishes(t *testing.T) {
	chain := func(records ...string) uint64 {
		head := uint64(0)
		for _, s := range records {
			head = checksum.Chain(head, s)
		}
		return head
	}
	all := map[uint64][]string{}
	for _, records := range [][]string{
		nil, {""}, {"", ""}, {"ab"}, {"a", "b"}, {"b", "a"}, {"ab", ""}, {"", "ab"}, {"a", "", "b"}, {"\x00"}, {"\x00\x00"},
	} {
		head := chain(records...)
		if other, is := all[head]; is {
			t.Errorf("%q and %q have the same chain", records, other)
		}
		all[head] = records
	}
}

// P3.7
func TestChainDetectsChanges(t *testing.T) {
	for _, prev := range edgeHashes {
		for _, s := range []string{"a", "\x00", "\xff", "demand x {a:1}", "\u20ac\xff\x00", strings.Repeat("r", 40)} {
			head := checksum.Chain(prev, s)
			changes(s, func(changed string) {
				if checksum.Chain(prev, changed) == head {
					t.Fatalf("Chain(%d, %q) is that of %q", prev, changed, s)
				}
			})
		}
	}
}
