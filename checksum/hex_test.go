package checksum_test

import (
	"math"
	"strconv"
	"strings"
	"testing"

	"saleroom/api"
	"saleroom/checksum"
)

var hexCases = []struct {
	x    uint64
	text string
}{
	{255, "00000000000000ff"},
	{0, "0000000000000000"},
	{1, "0000000000000001"},
	{16, "0000000000000010"},
	{0x0123456789abcdef, "0123456789abcdef"},
	{0xfedcba9876543210, "fedcba9876543210"},
	{0xaf63dc4c8601ec8c, "af63dc4c8601ec8c"},
	{1 << 63, "8000000000000000"},
	{1 << 60, "1000000000000000"},
	{math.MaxUint64, "ffffffffffffffff"},
}

// P3.6
func TestHex(t *testing.T) {
	for _, c := range hexCases {
		if got := checksum.Hex(c.x); got != c.text {
			t.Errorf("Hex(%d) = %q, want %q", c.x, got, c.text)
		}
	}
}

// P3.6
func TestUnhex(t *testing.T) {
	for _, c := range hexCases {
		if got, e := checksum.Unhex(c.text); e != api.OK || got != c.x {
			t.Errorf("Unhex(%q) = %d, %v, want %d", c.text, got, e, c.x)
		}
	}
}

// P3.6, R2: texts that are not the Hex of a number
func TestUnhexOfOtherTexts(t *testing.T) {
	for _, s := range []string{
		"",
		"0",
		"ff",
		"000000000000000",
		"00000000000000000",
		"00000000000000000000000000000000",
		"00000000000000FF",
		"00000000000000fF",
		"0x000000000000ff",
		"-0000000000000ff",
		"+0000000000000ff",
		" 0000000000000ff",
		"0000000000000ff ",
		"00000000000000ff\n",
		"000000000000000\n",
		"0000000_000000ff",
		"ffffffffffffffff0",
		"1ffffffffffffffff",
		"00000000000000g0",
		strings.Repeat("\x00", 16),
		strings.Repeat("\xff", 16),
		strings.Repeat("\u0660", 8),                // 16 bytes
		strings.Repeat("\u0660", 16),               // 16 runes
		strings.Repeat("\uff11", 5) + "0",          // 16 bytes
		"0000000000000" + "\ufffd",                 // 16 bytes
		"0000000000000" + "\xe2\x82\x30",           // 16 bytes, an incomplete rune
		"000000000000" + "\U00010030",              // 16 bytes, a rune whose lowest bits are those of a digit
		"00000000000000" + "\u0130",                // the same
		"00000000000000" + string(rune(0x100+'a')), // the same
	} {
		if got, e := checksum.Unhex(s); e != api.ErrFormat || got != 0 {
			t.Errorf("Unhex(%q) = %d, %v", s, got, e)
		}
	}
}

// P3.6: every byte in every place
func TestUnhexOfEveryByte(t *testing.T) {
	const text = "0123456789abcdef"
	changes(text, func(changed string) {
		want, wantError := uint64(0), api.OK
		if strings.Trim(changed, text) != "" {
			wantError = api.ErrFormat
		} else {
			want, _ = strconv.ParseUint(changed, 16, 64)
		}
		if got, e := checksum.Unhex(changed); got != want || e != wantError {
			t.Fatalf("Unhex(%q) = %d, %v, want %d, %v", changed, got, e, want, wantError)
		}
	})
}

// P3.7
func TestUnhexInvertsHex(t *testing.T) {
	source := newSource()
	for i := range 2000 {
		x := source.Uint64() >> (i % 64)
		text := checksum.Hex(x)
		if got, e := checksum.Unhex(text); e != api.OK || got != x {
			t.Fatalf("Unhex(%q) = %d, %v, want %d", text, got, e, x)
		}
		if want := strconv.FormatUint(x, 16); strings.TrimLeft(text, "0") != want && x != 0 || len(text) != 16 {
			t.Fatalf("Hex(%d) = %q, want %q after zeros", x, text, want)
		}
	}
}
