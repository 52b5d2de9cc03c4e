package checksum

import "saleroom/api"

// sealLength is the number of bytes before a sealed string.
const sealLength = 4

// Seal returns the bytes of the CRC of s, followed by s.
func Seal(s string) string {
	return sealOf(s) + s
}

// Open returns the string that was sealed, ErrShort if s is too short to be sealed, or ErrChecksum if its CRC is wrong.
func Open(s string) (string, api.Errno) {
	if len(s) < sealLength {
		return "", api.ErrShort
	}
	text := s[sealLength:]
	if s[:sealLength] != sealOf(text) {
		return "", api.ErrChecksum
	}
	return text, api.OK
}

// sealOf returns the bytes that Seal puts before s.
func sealOf(s string) string {
	return lowBytes(uint64(CRC(s)), sealLength)
}
