package roster_test

import (
	"math"
	"math/rand/v2"
	"strconv"

	"saleroom/api"
)

// Limits of the chapter.
const (
	bidders = 8       // the greatest number of bidders
	classes = 4       // the greatest class
	budget  = 1000000 // the greatest budget
	points  = 24000   // the greatest number of points
)

// newSource returns a source of the same numbers in every run.
func newSource() *rand.Rand {
	return rand.New(rand.NewPCG(15, 16))
}

// example returns the bidders of the chapter's examples.
func example() []api.Bidder {
	return named("ann", "bob", "cyd")
}

// named returns bidders with these names, whose other fields differ.
func named(names ...string) []api.Bidder {
	var l []api.Bidder
	for i, name := range names {
		l = append(l, api.Bidder{Name: name, Class: i % 5, Budget: int64(1000 + i), Points: 100 + i})
	}
	return l
}

// list returns n bidders with different names, the same ones in every list.
func list(n int) []api.Bidder {
	var names []string
	for i := range n {
		names = append(names, "b"+strconv.Itoa(i))
	}
	return named(names...)
}

// inClasses returns bidders of these classes.
func inClasses(classes ...int) []api.Bidder {
	l := list(len(classes))
	for i, class := range classes {
		l[i].Class = class
	}
	return l
}

// someName returns one of n names.
func someName(source *rand.Rand, n int) string {
	return []string{"ann", "bob", "cyd", "a", "an", "ann_", "b1", "abcdefghijkl", "z_9", "zzz", "x", "y"}[source.IntN(n)]
}

// someList returns up to most random bidders, of whom several may have the same of n names.
func someList(source *rand.Rand, most, n int) []api.Bidder {
	var l []api.Bidder
	for range source.IntN(most + 1) {
		l = append(l, api.Bidder{
			Name:   someName(source, n),
			Class:  source.IntN(classes + 1),
			Budget: source.Int64N(budget + 1),
			Points: source.IntN(points + 1),
		})
	}
	return l
}

// someNames returns up to most of n names, of which several may be the same.
func someNames(source *rand.Rand, most, n int) []string {
	var names []string
	for range source.IntN(most + 1) {
		names = append(names, someName(source, n))
	}
	return names
}

// wild are numbers that are out of every range of the chapter, some of them in range modulo a power of 2.
var wild = []int{-1, -2, -8, -256, 1<<32 + 1, 1<<32 + 2, -(1 << 32), 1 << 62, math.MaxInt, math.MinInt, math.MinInt + 1}

// badNames are no names.
var badNames = []string{"", "A", "1", "1a", "_a", "a ", " a", "a b", "a-b", "ab{", "a:1", "aB", "ä", "a\x00", "a\n", "a\x80", "abcdefghijklm", "*"}

// fault is a change of a bidder that gives its list an error.
type fault struct {
	name  string
	err   api.Errno
	apply func(*api.Bidder)
}

// faults are all kinds of errors that a bidder can have by itself, with the first and with extreme numbers out of range.
func faults() []fault {
	var all []fault
	add := func(name string, e api.Errno, apply func(*api.Bidder)) {
		all = append(all, fault{name, e, apply})
	}
	for _, name := range badNames {
		add("the name "+strconv.Quote(name), api.ErrName, func(b *api.Bidder) { b.Name = name })
	}
	for _, n := range append([]int{classes + 1, 256 + 1}, wild...) {
		add("the class "+strconv.Itoa(n), api.ErrRange, func(b *api.Bidder) { b.Class = n })
	}
	for _, n := range append([]int{budget + 1, 1<<32 + budget}, wild...) {
		add("the budget "+strconv.Itoa(n), api.ErrRange, func(b *api.Bidder) { b.Budget = int64(n) })
	}
	for _, n := range append([]int{points + 1, 1<<16 + 1}, wild...) {
		add("the points "+strconv.Itoa(n), api.ErrRange, func(b *api.Bidder) { b.Points = n })
	}
	return all
}
