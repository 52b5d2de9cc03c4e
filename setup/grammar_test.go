package setup_test

import (
	"math/rand/v2"
	"regexp"
	"slices"
	"strconv"
	"strings"
	"testing"

	"saleroom/api"
	"saleroom/setup"
)

// pattern is a set of words, and the error of a word that does not belong to it.
type pattern struct {
	words *regexp.Regexp
	err   api.Errno
}

var (
	newName = pattern{regexp.MustCompile(`\A[a-z][a-z0-9_]{0,11}\z`), api.ErrName}
	figures = pattern{regexp.MustCompile(`\A(0|[1-9][0-9]*)\z`), api.ErrFormat}
	short   = pattern{regexp.MustCompile(`\A[0-9]{1,9}\z`), api.ErrRange}
)

// definedBy returns the set of the names of the lines that begin with kind, and of the other words.
func definedBy(lines []string, kind string, others ...string) pattern {
	for _, line := range lines {
		if words := strings.Split(line, " "); words[0] == kind {
			others = append(others, regexp.QuoteMeta(words[1]))
		}
	}
	return pattern{regexp.MustCompile(`\A(` + strings.Join(append(others, `\n`), "|") + `)\z`), api.ErrNone}
}

// shapeOf returns the patterns of the words after the first one of a line that follows the earlier lines. A number has two.
func shapeOf(first string, earlier []string) [][]pattern {
	number := []pattern{figures, short}
	switch first {
	case "product":
		return [][]pattern{{newName}, number, number, number, number}
	case "bidder":
		return [][]pattern{{newName}, number, number, number}
	case "cap":
		return [][]pattern{{definedBy(earlier, "bidder", `\*`)}, number, number}
	case "aside":
		return [][]pattern{{definedBy(earlier, "product")}, number, number}
	}
	return nil
}

// lineError returns the error of a line that follows the earlier lines, all of which are right.
func lineError(line string, earlier []string) api.Errno {
	words := strings.Split(line, " ")
	shape := shapeOf(words[0], earlier)
	if shape == nil {
		return api.ErrCommand
	}
	if len(words) != len(shape)+1 {
		return api.ErrFormat
	}
	for i, patterns := range shape {
		for _, p := range patterns {
			if !p.words.MatchString(words[i+1]) {
				return p.err
			}
		}
	}
	return api.OK
}

// modelParse returns what Parse promises for a text.
func modelParse(text string) (api.Setup, int, api.Errno) {
	if len(text) > textSize {
		return api.Setup{}, 0, api.ErrLong
	}
	lines := strings.Split(text, "\n")
	for n, line := range lines {
		if line == "" {
			continue
		}
		if e := lineError(line, lines[:n]); e != api.OK {
			return api.Setup{}, n + 1, e
		}
	}
	s := build(lines)
	if e := setup.Check(s); e != api.OK {
		return api.Setup{}, 0, e
	}
	return s, 0, api.OK
}

// build returns the setup that right lines describe.
func build(lines []string) api.Setup {
	var s api.Setup
	for _, line := range lines {
		words := append(strings.Split(line, " "), "", "", "", "", "")
		name := words[1]
		var n [4]int
		for i := range n {
			n[i], _ = strconv.Atoi(words[i+2])
		}
		switch words[0] {
		case "product":
			s.Products = append(s.Products, api.Product{Name: name, Supply: n[0], Reserve: int64(n[1]), Points: n[2], Group: n[3]})
		case "bidder":
			s.Bidders = append(s.Bidders, api.Bidder{Name: name, Class: n[0], Budget: int64(n[1]), Points: n[2]})
		case "cap":
			i := slices.IndexFunc(s.Bidders, func(b api.Bidder) bool { return b.Name == name })
			s.Caps = append(s.Caps, api.Cap{Bidder: i, Group: n[0], Units: n[1]})
		case "aside":
			k := slices.IndexFunc(s.Products, func(p api.Product) bool { return p.Name == name })
			s.Asides = append(s.Asides, api.Aside{Product: k, Class: n[0], Units: n[1]})
		}
	}
	return s
}

// garble changes a few random words, lines and bytes of a text.
func garble(source *rand.Rand, text string) string {
	words := []string{"", "a", "x", "ann", "bidder", "cap", "product", "aside", "item", "*", "0", "1", "2", "01", "1234567890", "A", "-1", "b_", " "}
	for range source.IntN(3) {
		lines := strings.Split(text, "\n")
		i, j := source.IntN(len(lines)), source.IntN(len(lines))
		switch source.IntN(6) {
		case 0:
			lines[i], lines[j] = lines[j], lines[i]
		case 1:
			lines = slices.Insert(lines, i, lines[j])
		case 2:
			lines = slices.Delete(lines, i, i+1)
		case 3:
			lines = slices.Insert(lines, i, "")
		default:
			all := strings.Split(lines[i], " ")
			k := source.IntN(len(all))
			word := words[source.IntN(len(words))]
			lines[i] = strings.Join([][]string{
				slices.Replace(slices.Clone(all), k, k+1, word),
				slices.Insert(slices.Clone(all), k, word),
				slices.Delete(slices.Clone(all), k, k+1),
				slices.Replace(slices.Clone(all), k, k+1, all[k]+word),
			}[source.IntN(4)], " ")
		}
		text = strings.Join(lines, "\n")
	}
	return text
}

// P10.2: against the grammar, with lines in any order and garbled texts
func TestManyTexts(t *testing.T) {
	source := newSource()
	seen := map[api.Errno]int{}
	for range 40000 {
		text, e := setup.Format(someSetup(source))
		if e != api.OK {
			t.Fatal(e)
		}
		if source.IntN(4) == 0 {
			lines := strings.SplitAfter(text, "\n")
			source.Shuffle(len(lines), func(i, j int) { lines[i], lines[j] = lines[j], lines[i] })
			text = strings.Join(lines, "")
		}
		text = garble(source, text)
		want, line, e := modelParse(text)
		if got, n, err := setup.Parse(text); !equal(got, want) || n != line || err != e {
			t.Fatalf("Parse(%q) = %v, %d, %v, want %v, %d, %v", text, got, n, err, want, line, e)
		}
		seen[e]++
	}
	for _, e := range []api.Errno{api.OK, api.ErrCommand, api.ErrFormat, api.ErrName, api.ErrNone, api.ErrRange, api.ErrExists, api.ErrShort} {
		if seen[e] < 50 {
			t.Errorf("only %d of the texts have %v", seen[e], e)
		}
	}
}

// P10.2: all texts of up to three lines, each one of a few, after the same beginning
func TestEveryFewLines(t *testing.T) {
	lines := []string{"", "product a 1 0 0 0", "product x 2 0 0 0", "product x 5 0 0 0", "bidder x 0 0 0", "bidder a 0 0 0", "cap x 0 1", "cap a 0 1", "cap * 0 1",
		"cap * 0 x", "aside a 1 1", "aside x 1 1", "aside a 1", "item"}
	var extend func(string, int)
	extend = func(text string, more int) {
		want, line, e := modelParse(text)
		if got, n, err := setup.Parse(text); !equal(got, want) || n != line || err != e {
			t.Fatalf("Parse(%q) = %v, %d, %v, want %v, %d, %v", text, got, n, err, want, line, e)
		}
		if more == 0 {
			return
		}
		for _, next := range lines {
			extend(text+"\n"+next, more-1)
		}
	}
	for _, first := range lines {
		extend(first, 3)
	}
}
