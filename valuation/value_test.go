package valuation_test

import (
	"slices"
	"testing"

	"saleroom/api"
	"saleroom/expr"
	"saleroom/valuation"
)

// worth is the value of a bundle.
type worth struct {
	b    api.Bundle
	want int64
}

// P13.1: the examples of the chapter, and others for each operation
func TestValue(t *testing.T) {
	cases := []struct {
		text string
		all  []worth
	}{
		{"{a:1}@5", []worth{{with(), 0}, {with(1), 5}, {with(2), 5}, {with(4, 4), 5}, {with(0, 4), 0}, {full(), 5}}},
		{"{a:2,b:1}@5", []worth{{with(2, 1), 5}, {with(2), 0}, {with(1, 1), 0}, {with(1, 4), 0}, {with(3, 1, 1), 5}}},
		{"{f:4}@1", []worth{{with(4, 4, 4, 4, 4, 3), 0}, {with(0, 0, 0, 0, 0, 4), 1}}},
		{"xor({a:1}@5,{b:1}@7)", []worth{{with(), 0}, {with(1), 5}, {with(0, 1), 7}, {with(1, 1), 7}, {full(), 7}}},
		{"xor({b:1}@7,{a:1}@5)", []worth{{with(1), 5}, {with(0, 1), 7}, {with(1, 1), 7}}},
		{"xor({a:1}@5,{a:2}@3)", []worth{{with(1), 5}, {with(2), 5}}},
		{"xor({a:1}@5)", []worth{{with(), 0}, {with(1), 5}}},
		{"or({a:1}@5,{b:1}@7)", []worth{{with(), 0}, {with(1), 5}, {with(0, 1), 7}, {with(1, 1), 12}, {full(), 12}}},
		{"or({a:1}@5,{a:1}@7)", []worth{{with(), 0}, {with(1), 7}, {with(2), 12}, {with(3), 12}}},
		{"or({a:1}@5)", []worth{{with(), 0}, {with(1), 5}, {with(2), 5}}},
		{"or({a:2}@9,{a:1}@5,{a:1}@5)", []worth{{with(1), 5}, {with(2), 10}, {with(3), 14}, {with(4), 19}}},
		{"or({a:1,b:1}@10,{a:1}@6,{b:1}@6)", []worth{{with(1, 1), 12}, {with(1), 6}, {with(2, 1), 16}, {with(2, 2), 22}}},
		{"or({a:4}@1,{a:4}@2)", []worth{{with(4), 2}, {full(), 2}}},
		{"or(xor({a:1}@5,{b:1}@7),xor({a:1}@4,{b:1}@9))", []worth{{with(1), 5}, {with(0, 1), 9}, {with(1, 1), 14}, {with(0, 2), 16}, {with(2), 9}, {with(2, 2), 16}}},
		{"bonus({a:1}@5,{b:1}@3)", []worth{{with(), 0}, {with(1), 5}, {with(0, 1), 3}, {with(1, 1), 8}, {with(2, 2), 8}}},
		{"bonus({a:2}@5,{a:1}@3)", []worth{{with(), 0}, {with(1), 3}, {with(2), 8}}},
		{"bonus({a:1}@5,{a:2}@3)", []worth{{with(1), 5}, {with(2), 8}}},
		{"bonus(or({a:1}@5,{b:1}@7),{a:1,b:1}@3)", []worth{{with(1, 1), 15}, {with(0, 1), 7}, {with(1), 5}, {with(2), 5}}},
		{"or(bonus({a:1}@5,{a:1}@3),{a:1}@7)", []worth{{with(1), 8}, {with(2), 15}}},
		{"limit(or({a:1}@5,{b:1}@7),10)", []worth{{with(1, 1), 10}, {with(1), 5}, {with(0, 1), 7}, {with(), 0}}},
		{"limit({a:1}@5,1)", []worth{{with(1), 1}, {with(), 0}}},
		{"limit({a:1}@5,5)", []worth{{with(1), 5}}},
		{"limit({a:1}@5,1000000)", []worth{{with(1), 5}}},
		{"or(limit(or({a:1}@5,{a:1}@5),6),{a:1}@2)", []worth{{with(1), 5}, {with(2), 7}, {with(3), 8}}},
	}
	for _, c := range cases {
		for _, w := range c.all {
			expectValue(t, read(c.text), w.b, w.want)
		}
	}
}

// P13.1: a value is at most the greatest one.
func TestValueAtMost(t *testing.T) {
	cases := []struct {
		text string
		all  []worth
	}{
		{"{a:1}@1000000", []worth{{with(1), most}}},
		{"or({a:1}@999999,{b:1}@1)", []worth{{with(1, 1), most}, {with(1), most - 1}}},
		{"or({a:1}@999999,{b:1}@2)", []worth{{with(1, 1), most}, {with(0, 1), 2}}},
		{"or({a:1}@1000000,{b:1}@1000000)", []worth{{with(1, 1), most}, {with(1), most}}},
		{"bonus({a:1}@999999,{b:1}@1)", []worth{{with(1, 1), most}, {with(1), most - 1}}},
		{"bonus({a:1}@999999,{b:1}@2)", []worth{{with(1, 1), most}, {with(0, 1), 2}}},
		{"bonus(bonus({a:1}@1000000,{a:1}@1000000),{a:1}@1000000)", []worth{{with(1), most}}},
		{"xor(or({a:1}@600000,{b:1}@600000),{a:1}@7)", []worth{{with(1, 1), most}, {with(1), 600000}}},
		{"limit(or({a:1}@600000,{b:1}@600000),1000000)", []worth{{with(1, 1), most}}},
		{"limit(or({a:1}@600000,{b:1}@600000),999999)", []worth{{with(1, 1), most - 1}}},
		{"or(or({a:1}@600000,{b:1}@600000),or({a:1}@600000,{b:1}@600000))", []worth{{with(2, 2), most}, {with(1), 600000}}},
	}
	for _, c := range cases {
		for _, w := range c.all {
			expectValue(t, read(c.text), w.b, w.want)
		}
	}
	e := or(slices.Repeat([]api.Expr{atom(most, 1)}, args)...)
	for n := range units {
		expectValue(t, e, with(n+1), most)
	}
}

// P13.1: expressions that are not valid
func TestValueOfInvalidExpressions(t *testing.T) {
	for _, bad := range badExprs() {
		if err := expr.Check(bad.e); err != bad.err {
			t.Fatalf("the error of %v is %v, not %v", bad.e, err, bad.err)
		}
		for _, b := range append(badBundles(), with(), with(1), with(1, 1), full()) {
			expectValue(t, bad.e, b, 0)
		}
	}
}

// P13.1: bundles that are not valid, within which there is what the expression wants in many cases
func TestValueOfInvalidBundles(t *testing.T) {
	for _, text := range []string{"{a:1}@5", "{f:1}@5", "or({a:1}@5,{b:1}@7,{c:1}@2,{d:1}@3,{e:1}@4)", "xor({a:4}@5,{b:4}@7)"} {
		for _, b := range badBundles() {
			expectValue(t, read(text), b, 0)
		}
	}
}

// P13.1: every valid bundle, for an Atom and for a node of each operation, all of whose values are easily said
func TestValueOfEveryBundle(t *testing.T) {
	want, other := with(1, 0, 2, 0, 0, 3), with(0, 3, 2)
	one, two := atom(5, want[:]...), atom(7, other[:]...)
	both := func(b api.Bundle) int64 {
		var v int64
		if isWithin(want, b) {
			v = 5
		}
		if isWithin(other, b) {
			v += 7
		}
		return v
	}
	cases := []struct {
		e    api.Expr
		want func(api.Bundle) int64
	}{
		{one, func(b api.Bundle) int64 { return both(b) % 7 }},
		{api.Expr{Op: api.Xor, Args: []api.Expr{one, two}}, func(b api.Bundle) int64 { return min(both(b), 7) }},
		{api.Expr{Op: api.Bonus, Want: other, Value: 7, Args: []api.Expr{one}}, both},
		{api.Expr{Op: api.Limit, Value: 3, Args: []api.Expr{two}}, func(b api.Bundle) int64 { return min(both(b)/7*7, 3) }},
		{or(one, two), func(b api.Bundle) int64 {
			if both(b) == 12 && b[2] < 4 {
				return 7
			}
			return both(b)
		}},
	}
	for _, c := range cases {
		eachUpTo(full(), func(b api.Bundle) {
			if got := valuation.Value(c.e, b); got != c.want(b) {
				t.Fatalf("Value(%v, %v) = %d, want %d", c.e, b, got, c.want(b))
			}
		})
	}
}

// P13.1: random expressions, by the definition
func TestValueByDefinition(t *testing.T) {
	source := newSource()
	lasts := []api.Bundle{with(4), with(2, 2), with(3, 0, 0, 1), with(1, 1, 1, 1), with(0, 0, 2, 1, 0, 1), with(1, 2, 1, 0, 1)}
	values := map[int64]int{}
	for range 6000 {
		last := lasts[source.IntN(len(lasts))]
		e := validExpr(source, last)
		b := someBundle(source, last)
		want := valueByDefinition(e, b)
		values[want]++
		expectValue(t, e, b, want)
	}
	if len(values) < 500 || values[0] > 3000 || values[most] < 50 {
		t.Errorf("%d values are too much alike: %d times 0 and %d times the greatest one", len(values), values[0], values[most])
	}
}

// P13.1: large expressions and bundles, by the definition
func TestValueOfLargeBundles(t *testing.T) {
	source := newSource()
	for n := 0; n < 40; {
		e := validExpr(source, with(2, 2, 1, 1, 1, 1))
		if expr.Size(e) < 20 {
			continue
		}
		n++
		b := someBundle(source, with(2, 2, 2, 2, 2, 2))
		expectValue(t, e, b, valueByDefinition(e, b))
	}
}

// P13.1: an Or of Atoms, also of many of them in several levels, is worth what the best of those sets of Atoms is that the
// bundle can serve.
func TestValueOfManyAtoms(t *testing.T) {
	source := newSource()
	for range 60 {
		var atoms, groups []api.Expr
		for len(atoms) < 18 {
			want := someWant(source, with(2, 2, 2, 2, 1, 1))
			atoms = append(atoms, atom(1+source.Int64N(most/18), want[:]...))
		}
		for i := 0; i < len(atoms); i += 6 {
			groups = append(groups, or(or(atoms[i], atoms[i+1]), atoms[i+2], atoms[i+3], or(or(atoms[i+4], atoms[i+5]))))
		}
		e := or(groups...)
		b := someBundle(source, full())
		expectValue(t, e, b, packed(atoms, b))
	}
}

// P13.1, P13.4: as many different bundles as possible can be of use to the arguments of an Or.
func TestValueOfWideExpression(t *testing.T) {
	half := func(factor int64) ([]api.Expr, api.Expr) {
		var atoms []api.Expr
		for i := range 15 {
			var want api.Bundle
			want[i%api.MaxProducts] = 1 + i/api.MaxProducts%2
			atoms = append(atoms, atom(factor*int64(i*i%37+1), want[:]...))
		}
		all := or(append(slices.Clone(atoms[:7]), or(atoms[7:]...))...)
		return atoms, api.Expr{Op: api.Limit, Value: most, Args: []api.Expr{all}}
	}
	atoms, first := half(100)
	more, second := half(77)
	atoms = append(atoms, more...)
	e := or(first, second)
	var want int64
	for k := range api.MaxProducts {
		var alone []api.Expr
		for _, a := range atoms {
			if a.Want[k] > 0 {
				alone = append(alone, a)
			}
		}
		want += packed(alone, full())
	}
	if got := valuation.Most(e); got != want || want >= most {
		t.Errorf("Most of a wide expression is %d, want %d", got, want)
	}
}

// R7: the result does not depend on the order in which a map is ranged over.
func TestValueAgain(t *testing.T) {
	source := newSource()
	for range 40 {
		e := validExpr(source, with(2, 2, 1))
		b := someBundle(source, with(3, 3, 3))
		want := valueByDefinition(e, b)
		for range 20 {
			expectValue(t, e, b, want)
		}
	}
}

// P13.4: the example of the chapter, and others
func TestMost(t *testing.T) {
	cases := []struct {
		text string
		want int64
	}{
		{"{a:1}@5", 5},
		{"{a:4,b:4,c:4,d:4,e:4,f:4}@5", 5},
		{"xor({a:1}@5,{b:1}@7)", 7},
		{"or({a:1}@5,{b:1}@7)", 12},
		{"or({f:2}@5,{f:2}@7,{f:1}@2)", 12},
		{"or({f:2}@5,{f:2}@7,{f:1}@6)", 13},
		{"bonus(or({a:1}@5,{b:1}@7),{a:1,b:1}@3)", 15},
		{"limit(or({a:1}@5,{b:1}@7),10)", 10},
		{"or({a:1}@1000000,{b:1}@1)", most},
	}
	for _, c := range cases {
		if got := valuation.Most(read(c.text)); got != c.want {
			t.Errorf("Most of %s is %d, want %d", c.text, got, c.want)
		}
	}
	for _, bad := range badExprs() {
		if got := valuation.Most(bad.e); got != 0 {
			t.Errorf("Most(%v) = %d", bad.e, got)
		}
	}
}

// P13.4: random expressions of all products
func TestMostIsValueOfAll(t *testing.T) {
	source := newSource()
	for range 300 {
		e := validExpr(source, full())
		if got, want := valuation.Most(e), valuation.Value(e, full()); got != want || got == 0 {
			t.Errorf("Most(%v) = %d, want %d", e, got, want)
		}
	}
}

// R1: an expression that is among its own arguments has no end.
func TestEndlessExpression(t *testing.T) {
	arguments := make([]api.Expr, 3)
	arguments[0], arguments[1], arguments[2] = atom(1, 1), or(arguments...), atom(1, 1)
	endless := or(arguments...)
	if valuation.Value(endless, with(1)) != 0 || valuation.Most(endless) != 0 {
		t.Errorf("an expression without end has a value")
	}
	if table, err := valuation.Table(endless, with(1)); table != nil || err != api.ErrDepth {
		t.Errorf("the table of an expression without end is %v, %v", table, err)
	}
}
