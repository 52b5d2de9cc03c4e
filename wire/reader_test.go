package wire_test

import (
	"math"
	"strings"
	"testing"

	"saleroom/api"
	"saleroom/wire"
)

// P4.5, P4.10, P4.12
func TestNewReader(t *testing.T) {
	for _, s := range manyTexts() {
		r := wire.NewReader(s)
		expectLeft(t, "a new reader", r, len(s))
	}
}

// P4.5: readers of the same string are independent.
func TestTwoReaders(t *testing.T) {
	const s = "\x01\x02\x03"
	first, second := wire.NewReader(s), wire.NewReader(s)
	first.Uint(1)
	first.Fail(api.ErrRule)
	expectFailed(t, "the first reader", first, api.ErrRule)
	expectLeft(t, "the second reader", second, 3)
	if got := second.Uint(1); got != 1 {
		t.Errorf("the second reader reads %d", got)
	}
}

// P4.6, P4.10: the example of the chapter, and integers at the limits of most
func TestReaderUint(t *testing.T) {
	cases := []struct {
		s    string
		most uint64
		want uint64
		left int
	}{
		{"\xac\x02", 1000, 300, 0},
		{"\xac\x02", 300, 300, 0},
		{"\xac\x02\xac\x02", math.MaxUint64, 300, 2},
		{"\x00", 0, 0, 0},
		{"\x00\x00\x00", 0, 0, 2},
		{"\x01\x80", 1, 1, 1},
		{"\x7f", 127, 127, 0},
		{"\x80\x01", 128, 128, 0},
		{"\x80\x80\x01\x00", 16384, 16384, 1},
		{"\xff\xff\xff\xff\xff\xff\xff\xff\x7f", math.MaxInt64, math.MaxInt64, 0},
		{"\x80\x80\x80\x80\x80\x80\x80\x80\x80\x01\xff", 1 << 63, 1 << 63, 1},
		{"\xff\xff\xff\xff\xff\xff\xff\xff\xff\x01", math.MaxUint64, math.MaxUint64, 0},
	}
	for _, c := range cases {
		r := wire.NewReader(c.s)
		if got := r.Uint(c.most); got != c.want {
			t.Errorf("Uint(%d) of %x = %d, want %d", c.most, c.s, got, c.want)
		}
		expectLeft(t, "Uint", r, c.left)
	}
}

const nine = "\xff\xff\xff\xff\xff\xff\xff\xff\xff"

var uintErrors = []struct {
	s    string
	want api.Errno
}{
	{"", api.ErrShort},
	{"\x80", api.ErrShort},
	{"\x81\x80", api.ErrShort},
	{nine, api.ErrShort},
	{strings.Repeat("\x80", 9), api.ErrShort},
	{"\x80\x00", api.ErrFormat},
	{"\x81\x00", api.ErrFormat},
	{"\xff\x80\x00", api.ErrFormat},
	{"\x81\x00\x01", api.ErrFormat},
	{nine + "\x00", api.ErrFormat},
	{nine + "\x02", api.ErrFormat},
	{nine + "\x03", api.ErrFormat},
	{nine + "\x7f", api.ErrFormat},
	{strings.Repeat("\x80", 9) + "\x00", api.ErrFormat},
	{strings.Repeat("\x80", 9) + "\x02", api.ErrFormat},
	{nine + "\x80", api.ErrFormat},
	{nine + "\x81", api.ErrFormat},
	{nine + "\xff", api.ErrFormat},
	{nine + "\x81\x01", api.ErrFormat},
	{strings.Repeat("\x80", 10) + "\x01", api.ErrFormat},
	{strings.Repeat("\xff", 50), api.ErrFormat},
}

// P4.6: malformed encodings, whose errors come before ErrRange
func TestReaderUintErrors(t *testing.T) {
	for _, c := range uintErrors {
		for _, most := range []uint64{0, 1, 127, math.MaxUint64} {
			r := wire.NewReader(c.s)
			if got := r.Uint(most); got != 0 {
				t.Errorf("Uint(%d) of %x = %d", most, c.s, got)
			}
			expectFailed(t, "Uint", r, c.want)
		}
	}
}

// P4.6: the example of the chapter, and each integer with limits beside it
func TestReaderUintBeyondMost(t *testing.T) {
	r := wire.NewReader("\xac\x02")
	if got := r.Uint(299); got != 0 {
		t.Errorf("Uint(299) = %d", got)
	}
	expectFailed(t, "Uint(299)", r, api.ErrRange)
	for _, x := range manyUints() {
		if x == 0 {
			continue
		}
		for _, most := range []uint64{0, x / 2, x - 1} {
			r := wire.NewReader(wire.Uint(x) + "\x00")
			if got := r.Uint(most); got != 0 {
				t.Fatalf("Uint(%d) of %d = %d", most, x, got)
			}
			expectFailed(t, "Uint", r, api.ErrRange)
		}
	}
}

// P4.7, P4.10: the example of the chapter, and the limits
func TestReaderInt(t *testing.T) {
	cases := []struct {
		s    string
		want int64
		left int
	}{
		{"\x01", -1, 0},
		{"\x02\x01", 1, 1},
		{"\x00", 0, 0},
		{"\x03", -2, 0},
		{"\x7e", 63, 0},
		{"\x7f", -64, 0},
		{"\xac\x02\xac\x02", 150, 2},
		{"\xfe\xff\xff\xff\xff\xff\xff\xff\xff\x01", math.MaxInt64, 0},
		{"\xff\xff\xff\xff\xff\xff\xff\xff\xff\x01", math.MinInt64, 0},
	}
	for _, c := range cases {
		r := wire.NewReader(c.s)
		if got := r.Int(); got != c.want {
			t.Errorf("Int of %x = %d, want %d", c.s, got, c.want)
		}
		expectLeft(t, "Int", r, c.left)
	}
}

// P4.7
func TestReaderIntErrors(t *testing.T) {
	for _, c := range uintErrors {
		r := wire.NewReader(c.s)
		if got := r.Int(); got != 0 {
			t.Errorf("Int of %x = %d", c.s, got)
		}
		expectFailed(t, "Int", r, c.want)
	}
}

// P4.8, P4.10
func TestReaderText(t *testing.T) {
	cases := []struct {
		s    string
		most int
		want string
		left int
	}{
		{"\x02ab", 2, "ab", 0},
		{"\x02ab", math.MaxInt, "ab", 0},
		{"\x02abc", 2, "ab", 1},
		{"\x00", 0, "", 0},
		{"\x00\x00", 0, "", 1},
		{"\x03\xe2\x82\xac", 3, "\u20ac", 0},
		{"\x02\xff\x80\x80", 1000, "\xff\x80", 1},
		{"\x80\x01" + strings.Repeat("x", 130), 128, strings.Repeat("x", 128), 2},
	}
	for _, c := range cases {
		r := wire.NewReader(c.s)
		if got := r.Text(c.most); got != c.want {
			t.Errorf("Text(%d) of %x = %q, want %q", c.most, c.s, got, c.want)
		}
		expectLeft(t, "Text", r, c.left)
	}
}

// P4.8: the example of the chapter, lengths beyond most, and lengths beyond the bytes that are left
func TestReaderTextErrors(t *testing.T) {
	cases := []struct {
		s    string
		most int
		want api.Errno
	}{
		{"\x02ab", 1, api.ErrRange},
		{"\x02ab", 0, api.ErrRange},
		{"\x01", 0, api.ErrRange},
		{"\x09ab", 8, api.ErrRange},
		{"\x00", -1, api.ErrRange},
		{"\x02ab", -1, api.ErrRange},
		{"\x02ab", math.MinInt, api.ErrRange},
		{"\x02", -1, api.ErrRange},
		{nine + "\x01", -1, api.ErrRange},
		{nine + "\x01", math.MaxInt, api.ErrRange},
		{"\x80\x80\x80\x80\x80\x80\x80\x80\x80\x01", math.MaxInt, api.ErrRange},
		{"\x01", 1, api.ErrShort},
		{"\x02a", 2, api.ErrShort},
		{"\x03ab", 1000, api.ErrShort},
		{"\xff\xff\xff\xff\xff\xff\xff\xff\x7fab", math.MaxInt, api.ErrShort},
		{"\x80\x01" + strings.Repeat("x", 127), 128, api.ErrShort},
	}
	for _, c := range cases {
		r := wire.NewReader(c.s)
		if got := r.Text(c.most); got != "" {
			t.Errorf("Text(%d) of %x = %q", c.most, c.s, got)
		}
		expectFailed(t, "Text", r, c.want)
	}
}

// P4.8: malformed lengths, whose errors come before ErrRange
func TestReaderTextWithBadLength(t *testing.T) {
	for _, c := range uintErrors {
		for _, most := range []int{math.MinInt, -1, 0, 1, math.MaxInt} {
			r := wire.NewReader(c.s)
			if got := r.Text(most); got != "" {
				t.Errorf("Text(%d) of %x = %q", most, c.s, got)
			}
			expectFailed(t, "Text", r, c.want)
		}
	}
}

// P4.11, P4.12
func TestFail(t *testing.T) {
	for _, s := range []string{"", "\x05", "\x02ab"} {
		for e := api.ErrShort; e <= api.ErrCommand; e++ {
			r := wire.NewReader(s)
			r.Fail(e)
			expectFailed(t, "Fail", r, e)
		}
		for _, e := range []api.Errno{-1, 23, math.MaxInt, math.MinInt} {
			r := wire.NewReader(s)
			r.Fail(e)
			expectFailed(t, "Fail", r, e)
		}
	}
}

// P4.11: OK is no error, and the first error stays.
func TestFailWithOKAndAfterAnError(t *testing.T) {
	r := wire.NewReader("\x05\x06")
	r.Fail(api.OK)
	expectLeft(t, "Fail(OK)", r, 2)
	if got := r.Uint(5); got != 5 {
		t.Errorf("after Fail(OK), Uint is %d", got)
	}
	if got := r.Uint(5); got != 0 {
		t.Errorf("Uint(5) of 6 is %d", got)
	}
	r.Fail(api.ErrRule)
	expectFailed(t, "Fail after an error", r, api.ErrRange)
}

// P4.12: the error is that of the first call that fails.
func TestErr(t *testing.T) {
	r := wire.NewReader("\x01\x02ab\x00\x07\x80")
	steps := []struct {
		read func()
		want api.Errno
	}{
		{func() {}, api.OK},
		{func() { r.Int() }, api.OK},
		{func() { r.Text(2) }, api.OK},
		{func() { r.Text(0) }, api.OK},
		{func() { r.Uint(6) }, api.ErrRange},
		{func() { r.Uint(7) }, api.ErrRange},
		{func() { r.Uint(7) }, api.ErrRange},
	}
	for i, step := range steps {
		step.read()
		if got := r.Err(); got != step.want {
			t.Errorf("step %d: Err is %v, want %v", i, got, step.want)
		}
	}
}

// P4.13: the example of the chapter
func TestEnd(t *testing.T) {
	r := wire.NewReader("\x05\x06")
	r.Uint(5)
	if got := r.End(); got != api.ErrLong {
		t.Errorf("with one byte left, End is %v", got)
	}
	expectFailed(t, "End with one byte left", r, api.ErrLong)
	for _, s := range manyTexts()[1:] {
		r := wire.NewReader(s)
		if got := r.End(); got != api.ErrLong {
			t.Errorf("with %d bytes left, End is %v", len(s), got)
		}
		expectFailed(t, "End of a new reader", r, api.ErrLong)
	}
}

// P4.13: the end changes nothing if no bytes are left.
func TestEndWithNothingLeft(t *testing.T) {
	r := wire.NewReader("\x05")
	r.Uint(5)
	for range 3 {
		if got := r.End(); got != api.OK {
			t.Errorf("with nothing left, End is %v", got)
		}
		expectLeft(t, "End", r, 0)
	}
	r.Int()
	expectFailed(t, "Int after the end", r, api.ErrShort)
	if got := wire.NewReader("").End(); got != api.OK {
		t.Errorf("without bytes, End is %v", got)
	}
}

// P4.13: an error goes before bytes that are left.
func TestEndAfterAnError(t *testing.T) {
	r := wire.NewReader("\x05\x06")
	r.Uint(4)
	if got := r.End(); got != api.ErrRange {
		t.Errorf("after ErrRange, End is %v", got)
	}
	expectFailed(t, "End after an error", r, api.ErrRange)
}

// R4
func TestNilReader(t *testing.T) {
	var r *wire.Reader
	if r.Err() != api.ErrNone || r.End() != api.ErrNone {
		t.Errorf("Err is %v, End is %v", r.Err(), r.End())
	}
	expectFailed(t, "a nil reader", r, api.ErrNone)
	for _, e := range []api.Errno{api.OK, api.ErrShort, -1} {
		r.Fail(e)
		expectFailed(t, "a nil reader after Fail", r, api.ErrNone)
	}
}

// R1, R4: nothing panics.
func TestPlainReader(t *testing.T) {
	uses := []func(r *wire.Reader){
		func(r *wire.Reader) { r.Uint(0) },
		func(r *wire.Reader) { r.Int() },
		func(r *wire.Reader) { r.Text(5) },
		func(r *wire.Reader) { r.Text(-5) },
		func(r *wire.Reader) { r.Fraction() },
		func(r *wire.Reader) { r.Left() },
		func(r *wire.Reader) { r.Fail(api.ErrRule) },
		func(r *wire.Reader) { r.Err() },
		func(r *wire.Reader) { r.End() },
	}
	for _, first := range uses {
		for _, second := range uses {
			var r wire.Reader
			first(&r)
			second(&r)
		}
	}
}
