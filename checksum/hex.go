package checksum

import "saleroom/api"

// hexLength is the number of hexadecimal digits of 64 bits.
const hexLength = 16

const hexDigits = "0123456789abcdef"

// Hex returns x as 16 hexadecimal digits.
func Hex(x uint64) string {
	var text [hexLength]byte
	for i := range text {
		text[i] = hexDigits[x>>60]
		x <<= 4
	}
	return string(text[:])
}

// Unhex returns the number whose Hex is s, or ErrFormat if there is none.
func Unhex(s string) (uint64, api.Errno) {
	if len(s) != hexLength {
		return 0, api.ErrFormat
	}
	var x uint64
	for _, r := range s {
		digit, is := digitOf(r)
		if !is {
			return 0, api.ErrFormat
		}
		x = x<<4 | digit
	}
	return x, api.OK
}

// digitOf returns the value of a hexadecimal digit.
func digitOf(r rune) (digit uint64, is bool) {
	switch {
	case '0' <= r && r <= '9':
		return uint64(r - '0'), true
	case 'a' <= r && r <= 'f':
		return uint64(r-'a') + 10, true
	}
	return 0, false
}
