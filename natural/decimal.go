package natural

import (
	"bytes"
	"slices"

	"saleroom/api"
)

// maxDecimal is the greatest number of bytes that Parse accepts.
const maxDecimal = 600

// A chunk is the greatest power of ten that fits in a digit: Format divides by it, and not by 10, to divide less often.
const (
	chunk       = 1000000000
	chunkLength = 9
)

// Format returns a in decimal.
func Format(a api.Nat) string {
	rest := slices.Clone(trim(a))
	if len(rest) == 0 {
		return "0"
	}
	var text []byte // the last decimal digit first
	for len(rest) > 0 {
		part := divideByDigit(rest, chunk)
		rest = trim(rest)
		for range chunkLength {
			text = append(text, byte('0'+part%10))
			part /= 10
		}
	}
	text = bytes.TrimRight(text, "0")
	slices.Reverse(text)
	return string(text)
}

// Parse returns the number that s denotes in decimal.
func Parse(s string) (api.Nat, api.Errno) {
	if e := checkDecimal(s); e != api.OK {
		return nil, e
	}
	var number api.Nat
	for i := range len(s) {
		number = timesTenPlus(number, uint32(s[i]-'0'))
	}
	return number, api.OK
}

// checkDecimal returns the error of a text that is not a number in decimal.
func checkDecimal(s string) api.Errno {
	switch {
	case len(s) == 0:
		return api.ErrShort
	case len(s) > maxDecimal:
		return api.ErrLong
	case s[0] == '0' && len(s) > 1:
		return api.ErrFormat
	}
	for i := range len(s) {
		if s[i] < '0' || s[i] > '9' {
			return api.ErrFormat
		}
	}
	return api.OK
}

// timesTenPlus returns 10 * a + digit and uses the memory of a for it.
func timesTenPlus(a api.Nat, digit uint32) api.Nat {
	carry := uint64(digit)
	for i := range len(a) {
		carry += 10 * uint64(a[i])
		a[i] = uint32(carry)
		carry >>= digitBits
	}
	if carry > 0 {
		a = append(a, uint32(carry))
	}
	return a
}
