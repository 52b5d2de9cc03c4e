package wire

import (
	"math"

	"saleroom/api"
	"saleroom/fraction"
)

// lastGroup is the index of the last group that an integer below 2^64 can have. That group has one bit.
const lastGroup = 9

// maxDigits is the greatest number of digits of a number that can be read.
const maxDigits = 2000

// Reader reads encodings and keeps its first error. After an error it has no bytes left.
type Reader struct {
	rest string
	err  api.Errno
}

// NewReader returns a reader of the bytes of s.
func NewReader(s string) *Reader {
	return &Reader{rest: s}
}

// Uint reads an unsigned integer of at most most.
func (r *Reader) Uint(most uint64) uint64 {
	if r.Err() != api.OK {
		return 0
	}
	x, length, e := decode(r.rest)
	switch {
	case e != api.OK:
		r.Fail(e)
		return 0
	case x > most:
		r.Fail(api.ErrRange)
		return 0
	}
	r.rest = r.rest[length:]
	return x
}

// decode returns the unsigned integer whose encoding s begins with, and the number of bytes of this encoding. It stops at
// the first byte that shows an error.
func decode(s string) (x uint64, length int, e api.Errno) {
	for i := range len(s) {
		group := s[i]
		if i == lastGroup && group > 1 || i > 0 && group == 0 {
			return 0, 0, api.ErrFormat
		}
		x |= uint64(group&^more) << (groupBits * i)
		if group < more {
			return x, i + 1, api.OK
		}
	}
	return 0, 0, api.ErrShort
}

// Int reads a signed integer.
func (r *Reader) Int() int64 {
	return unfold(r.Uint(math.MaxUint64))
}

// Text reads a string of at most most bytes.
func (r *Reader) Text(most int) string {
	length := r.Uint(uint64(max(most, 0)))
	if most < 0 {
		r.Fail(api.ErrRange)
	}
	if length > uint64(r.Left()) {
		r.Fail(api.ErrShort)
	}
	if r.Err() != api.OK {
		return ""
	}
	text := r.rest[:length]
	r.rest = r.rest[length:]
	return text
}

// Fraction reads a fraction.
func (r *Reader) Fraction() api.Frac {
	number := func() api.Nat {
		var digits api.Nat
		for left := r.Uint(maxDigits); left > 0 && r.Err() == api.OK; left-- {
			digits = append(digits, uint32(r.Uint(math.MaxUint32)))
		}
		return digits
	}
	var f api.Frac
	f.Neg = r.Uint(1) == 1
	f.Num = number()
	f.Den = number()
	if r.Err() != api.OK {
		return api.Frac{}
	}
	if !fraction.Valid(f) {
		r.Fail(api.ErrFormat)
		return api.Frac{}
	}
	return f
}

// Left returns the number of bytes that have not been read.
func (r *Reader) Left() int {
	if r == nil {
		return 0
	}
	return len(r.rest)
}

// Fail sets the error of the reader to e if it is OK so far.
func (r *Reader) Fail(e api.Errno) {
	if r.Err() != api.OK || e == api.OK {
		return
	}
	r.err = e
	r.rest = ""
}

// Err returns the error of the reader.
func (r *Reader) Err() api.Errno {
	if r == nil {
		return api.ErrNone
	}
	return r.err
}

// End returns the error of the reader, which becomes ErrLong first if bytes are left.
func (r *Reader) End() api.Errno {
	if r.Left() > 0 {
		r.Fail(api.ErrLong)
	}
	return r.Err()
}
