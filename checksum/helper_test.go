package checksum_test

import (
	"math/rand/v2"
	"strings"
)

// newSource returns a source of the same numbers in every run.
func newSource() *rand.Rand {
	return rand.New(rand.NewPCG(1, 2))
}

// someString returns a string of random bytes, most of which are not UTF-8.
func someString(source *rand.Rand, length int) string {
	s := make([]byte, length)
	for i := range s {
		s[i] = byte(source.Uint32())
	}
	return string(s)
}

// edgeStrings returns strings that are empty, that begin or end with zeros, or whose bytes and runes differ.
func edgeStrings() []string {
	return []string{
		"", "\x00", "\x00\x00\x00\x00", "\xff", "\xff\xff\xff\xff", "a", "ab", "ba", "123456789", "\x00a", "a\x00", "a\n",
		"ä", "\u20ac", "\U0001f600", "\ufffd", "\x80", "\xc3", "\xe2\x82", "a\xffb", "\xed\xa0\x80", "\xf4\x90\x80\x80",
		strings.Repeat("\x00", 300), strings.Repeat("x", 70000), everyByte(),
	}
}

// everyByte returns a string of all bytes in ascending order.
func everyByte() string {
	var s [256]byte
	for i := range s {
		s[i] = byte(i)
	}
	return string(s[:])
}

// manyStrings returns the edge strings and strings of random bytes.
func manyStrings() []string {
	source := newSource()
	all := edgeStrings()
	for length := range 300 {
		all = append(all, someString(source, length))
	}
	return all
}

// changes calls use with each string that differs from s in exactly one byte.
func changes(s string, use func(changed string)) {
	for i := range len(s) {
		for difference := 1; difference < 256; difference++ {
			changed := []byte(s)
			changed[i] ^= byte(difference)
			use(string(changed))
		}
	}
}
