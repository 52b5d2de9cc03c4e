package setup_test

import (
	"slices"
	"testing"

	"saleroom/api"
	"saleroom/bundle"
	"saleroom/setup"
)

// P10.5: Parse of Format returns the setup, also without the last line feed.
func TestParseOfFormat(t *testing.T) {
	source := newSource()
	setups := []api.Setup{example(), sale(), largest()}
	for len(setups) < 3000 {
		setups = append(setups, someSetup(source))
	}
	for _, s := range setups {
		text, e := setup.Format(s)
		if e != api.OK {
			t.Fatalf("Format(%v) = %v", s, e)
		}
		expectParse(t, text, s)
		expectParse(t, text[:len(text)-1], s)
	}
}

// P10.5: bundles within feasible ones are feasible, bidder by bidder. The units that remain are the more.
func TestFeasibleWithin(t *testing.T) {
	source := newSource()
	count := 0
	for range 5000 {
		s := someSetup(source)
		var l []api.Bundle
		for range s.Bidders {
			l = append(l, someBundle(source, s, 2))
		}
		if setup.Feasible(s, l) != api.OK {
			continue
		}
		left := setup.Remaining(s, l)
		for i, b := range l {
			for smaller, rest := range bundle.Splits(b) {
				fewer := slices.Clone(l)
				fewer[i] = smaller
				more := bundle.Add(left, rest)
				expectFeasible(t, s, fewer, api.OK, more[:]...)
				expectAllowed(t, s, i, smaller, api.OK)
				count++
			}
		}
	}
	if count < 5000 {
		t.Errorf("only %d lists are compared", count)
	}
}

// spare returns a copy of l that has spare capacity, all of it with the last element.
func spare[T any](l []T) []T {
	if len(l) == 0 {
		return nil
	}
	return slices.Concat(l, slices.Repeat(l[len(l)-1:], 3))[:len(l)]
}

// R3: arguments are not modified, and neither is their spare capacity.
func TestArgumentsStay(t *testing.T) {
	source := newSource()
	for range 500 {
		s := someSetup(source)
		s = api.Setup{Products: spare(s.Products), Bidders: spare(s.Bidders), Caps: spare(s.Caps), Asides: spare(s.Asides)}
		l := make([]api.Bundle, len(s.Bidders), 2*len(s.Bidders))
		for i := range l[:cap(l)] {
			l[:cap(l)][i] = someBundle(source, s, 2)
		}
		whole := func() api.Setup {
			return api.Setup{
				Products: s.Products[:cap(s.Products)],
				Bidders:  s.Bidders[:cap(s.Bidders)],
				Caps:     s.Caps[:cap(s.Caps)],
				Asides:   s.Asides[:cap(s.Asides)],
			}
		}
		before, bundles := copyOf(whole()), slices.Clone(l[:cap(l)])
		text, _ := setup.Format(s)
		setup.Check(s)
		setup.Open(s)
		setup.Allowed(s, 0, l[0])
		setup.Feasible(s, l)
		setup.Remaining(s, l)
		if !equal(whole(), before) || !slices.Equal(l[:cap(l)], bundles) {
			t.Fatalf("%v with %v has become %v with %v", before, bundles, s, l)
		}
		if again, _ := setup.Format(s); again != text {
			t.Fatalf("Format returns %q and then %q", text, again)
		}
	}
}

// R3: the lists of a parsed setup are new memory, each of its own.
func TestParsedSetupsShareNothing(t *testing.T) {
	first, _, _ := setup.Parse(saleText)
	second, _, _ := setup.Parse(saleText)
	clear(first.Products[:cap(first.Products)])
	clear(first.Bidders[:cap(first.Bidders)])
	clear(first.Caps[:cap(first.Caps)])
	if !slices.Equal(first.Asides, sale().Asides) {
		t.Errorf("the set-asides have become %v", first.Asides)
	}
	clear(first.Asides[:cap(first.Asides)])
	if !equal(second, sale()) {
		t.Errorf("another setup has become %v", second)
	}
	expectParse(t, saleText, sale())
}
