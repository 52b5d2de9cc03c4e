package amount_test

import (
	"math/rand/v2"

	"saleroom/api"
	"saleroom/fraction"
)

// most is the greatest amount.
const most = 1000000

// newSource returns a source of the same numbers in every run.
func newSource() *rand.Rand {
	return rand.New(rand.NewPCG(7, 8))
}

// frac returns the fraction of a text in lowest terms.
func frac(text string) api.Frac {
	f, e := fraction.Parse(text)
	if e != api.OK {
		panic(text)
	}
	return f
}
