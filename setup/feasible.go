package setup

import (
	"saleroom/api"
	"saleroom/bundle"
	"saleroom/catalog"
)

// Open returns the open units of each product, and the class of its set-aside, or 0 if it has none.
func Open(s api.Setup) (open, class api.Bundle) {
	if Check(s) != api.OK {
		return api.Bundle{}, api.Bundle{}
	}
	return openUnits(s)
}

// openUnits returns what Open does for a valid setup.
func openUnits(s api.Setup) (open, class api.Bundle) {
products:
	for k, p := range s.Products {
		for _, a := range s.Asides {
			if a.Product == k {
				open[k], class[k] = p.Supply-a.Units, a.Class
				continue products
			}
		}
		open[k] = p.Supply
	}
	return open, class
}

// Allowed returns OK if the bidder may win b, whatever the others win.
func Allowed(s api.Setup, bidder int, b api.Bundle) api.Errno {
	if e := Check(s); e != api.OK {
		return e
	}
	if !isIndex(bidder, len(s.Bidders)) {
		return api.ErrNone
	}
	return allowed(s, bidder, b)
}

// allowed returns what Allowed does for a bidder of a valid setup.
func allowed(s api.Setup, bidder int, b api.Bundle) api.Errno {
	if e := bundle.Check(b); e != api.OK {
		return e
	}
	open, class := openUnits(s)
	switch {
	case !bundle.Within(b, catalog.Supply(s.Products)),
		!bundle.Within(outside(class, s.Bidders[bidder].Class, b), open),
		overCap(s, bidder, b):
		return api.ErrRule
	}
	return api.OK
}

// outside returns the part of b that consists of the products of which a bidder of class own is an outsider.
func outside(class api.Bundle, own int, b api.Bundle) api.Bundle {
	for k := range b {
		// A product without a set-aside has no outsiders.
		if class[k] == 0 || class[k] == own {
			b[k] = 0
		}
	}
	return b
}

// overCap reports whether b has more units than a cap for the bidder allows.
func overCap(s api.Setup, bidder int, b api.Bundle) bool {
	for _, c := range s.Caps {
		applies := c.Bidder == bidder || c.Bidder == everyBidder
		if applies && catalog.Units(s.Products, c.Group, b) > c.Units {
			return true
		}
	}
	return false
}

// Feasible returns OK if the bidders may win their bundles together.
func Feasible(s api.Setup, l []api.Bundle) api.Errno {
	if e := Check(s); e != api.OK {
		return e
	}
	if len(l) != len(s.Bidders) {
		return api.ErrLong
	}
	for i, b := range l {
		if e := allowed(s, i, b); e != api.OK {
			return e
		}
	}
	var all, outsiders api.Bundle
	open, class := openUnits(s)
	for i, b := range l {
		all = bundle.Add(all, b)
		outsiders = bundle.Add(outsiders, outside(class, s.Bidders[i].Class, b))
	}
	if !bundle.Within(all, catalog.Supply(s.Products)) || !bundle.Within(outsiders, open) {
		return api.ErrRule
	}
	return api.OK
}

// Remaining returns the supply without the units of the bundles, or the empty bundle if they are not feasible together.
func Remaining(s api.Setup, l []api.Bundle) api.Bundle {
	if Feasible(s, l) != api.OK {
		return api.Bundle{}
	}
	left := catalog.Supply(s.Products)
	for _, b := range l {
		left = bundle.Sub(left, b)
	}
	return left
}
