package wire_test

import (
	"math"
	"math/rand/v2"
	"slices"
	"strconv"
	"testing"

	"saleroom/api"
	"saleroom/fraction"
	"saleroom/wire"
)

// Example 1 of the chapter
func TestSequence(t *testing.T) {
	s := wire.Int(-1) + wire.Text("ab") + wire.Uint(300)
	if s != "\x01\x02ab\xac\x02" {
		t.Errorf("the bytes are %x", s)
	}
	r := wire.NewReader(s)
	if got := r.Int(); got != -1 {
		t.Errorf("Int is %d", got)
	}
	if got := r.Text(2); got != "ab" {
		t.Errorf("Text is %q", got)
	}
	if got := r.Uint(300); got != 300 {
		t.Errorf("Uint is %d", got)
	}
	if got := r.End(); got != api.OK {
		t.Errorf("End is %v", got)
	}
}

// P4.14: what is written is read again, and the bytes behind it stay.
func TestReadingInvertsWriting(t *testing.T) {
	const behind = "\x00\x80\xff"
	for _, x := range manyUints() {
		r := wire.NewReader(wire.Uint(x) + behind)
		if got := r.Uint(x); got != x {
			t.Fatalf("Uint: %d, want %d", got, x)
		}
		expectLeft(t, "Uint", r, len(behind))
	}
	for _, x := range manyInts() {
		r := wire.NewReader(wire.Int(x) + behind)
		if got := r.Int(); got != x {
			t.Fatalf("Int: %d, want %d", got, x)
		}
		expectLeft(t, "Int", r, len(behind))
	}
	for _, s := range manyTexts() {
		r := wire.NewReader(wire.Text(s) + behind)
		if got := r.Text(len(s)); got != s {
			t.Fatalf("Text: %q, want %q", got, s)
		}
		expectLeft(t, "Text", r, len(behind))
	}
	for _, f := range manyFractions() {
		r := wire.NewReader(wire.Fraction(f) + behind)
		if got := r.Fraction(); !equal(got, f) {
			t.Fatalf("Fraction: %v, want %v", got, f)
		}
		expectLeft(t, "Fraction", r, len(behind))
	}
}

// The kinds of values, each with a function that reads a value and encodes it again.
var kinds = []struct {
	name    string
	rewrite func(r *wire.Reader) string
}{
	{"Uint", func(r *wire.Reader) string { return wire.Uint(r.Uint(math.MaxUint64)) }},
	{"Int", func(r *wire.Reader) string { return wire.Int(r.Int()) }},
	{"Text", func(r *wire.Reader) string { return wire.Text(r.Text(math.MaxInt)) }},
	{"Fraction", func(r *wire.Reader) string { return wire.Fraction(r.Fraction()) }},
}

// expectExact expects for each kind that s begins with an encoding if a value can be read from it.
func expectExact(t *testing.T, s string) {
	t.Helper()
	for _, kind := range kinds {
		r := wire.NewReader(s)
		again := kind.rewrite(r)
		if r.Err() != api.OK {
			continue
		}
		if read := s[:len(s)-r.Left()]; again != read {
			t.Fatalf("%s: the bytes %x are read, but the encoding of the value is %x", kind.name, read, again)
		}
	}
}

// P4.14: all strings of up to two bytes, and longer ones of bytes that matter
func TestEveryValueHasOneEncoding(t *testing.T) {
	for first := range 256 {
		expectExact(t, string([]byte{byte(first)}))
		for second := range 256 {
			expectExact(t, string([]byte{byte(first), byte(second)}))
		}
	}
	const alphabet = "\x00\x01\x02\x04\x7f\x80\x81"
	list := []string{""}
	for range 6 {
		var longer []string
		for _, s := range list {
			for i := range len(alphabet) {
				longer = append(longer, s+alphabet[i:i+1])
			}
		}
		for _, s := range longer {
			expectExact(t, s)
		}
		list = longer
	}
}

// P4.14: encodings that are longer than seven bytes, with random changes
func TestEveryChangedEncodingIsExact(t *testing.T) {
	source := newSource()
	var codes []string
	for _, x := range manyUints() {
		codes = append(codes, wire.Uint(x))
	}
	for _, f := range manyFractions() {
		codes = append(codes, wire.Fraction(f))
	}
	for _, code := range codes {
		for range 20 {
			bytes := []byte(code)
			bytes[source.IntN(len(bytes))] ^= 1 << source.IntN(8)
			expectExact(t, string(bytes))
		}
	}
}

// someValue returns a random value of the kind in a readable form that tells it from others, and its encoding.
func someValue(source *rand.Rand, kind int) (shown, code string) {
	switch kind {
	case 0:
		x := source.Uint64() >> source.IntN(64)
		return strconv.FormatUint(x, 10), wire.Uint(x)
	case 1:
		x := int64(source.Uint64()) >> source.IntN(64)
		return strconv.FormatInt(x, 10), wire.Int(x)
	case 2:
		s := string([]byte{byte(source.IntN(3)), byte(source.IntN(3)), byte(source.IntN(3))}[:source.IntN(4)])
		return strconv.Quote(s), wire.Text(s)
	}
	f, _ := fraction.New(int64(source.IntN(5))-2, int64(source.IntN(3))+1)
	return fraction.Format(f), wire.Fraction(f)
}

// P4.14: sequences of the same kinds of values have different encodings, and each is read again with these kinds.
func TestSequencesOfTheSameKinds(t *testing.T) {
	source := newSource()
	for range 100 {
		var sequence []int
		for range source.IntN(4) + 1 {
			sequence = append(sequence, source.IntN(len(kinds)))
		}
		codes := map[string][]string{}
		for range 300 {
			var all []string
			whole := ""
			for _, kind := range sequence {
				shown, code := someValue(source, kind)
				all = append(all, shown)
				whole += code
			}
			if other, is := codes[whole]; is && !slices.Equal(other, all) {
				t.Fatalf("%v and %v have the encoding %x", all, other, whole)
			}
			codes[whole] = all
			checkSequence(t, sequence, whole)
		}
	}
}

// checkSequence reads values of the kinds and expects that their encodings are the whole string.
func checkSequence(t *testing.T, sequence []int, whole string) {
	t.Helper()
	r := wire.NewReader(whole)
	again := ""
	for _, kind := range sequence {
		again += kinds[kind].rewrite(r)
	}
	if e := r.End(); e != api.OK || again != whole {
		t.Fatalf("%x is read as %x, %v", whole, again, e)
	}
}
