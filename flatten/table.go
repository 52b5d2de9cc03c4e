package flatten

import (
	"saleroom/api"
	"saleroom/bundle"
)

// FromTable returns the minimal list of table.
func FromTable(table []int64, supply api.Bundle) ([]api.Offer, api.Errno) {
	if err := checkTable(table, supply); err != api.OK {
		return nil, err
	}
	l := minimal(table, supply)
	if len(l) > api.MaxOffers {
		return nil, api.ErrLong
	}
	return l, api.OK
}

// checkTable returns the first error of a table of supply.
func checkTable(table []int64, supply api.Bundle) api.Errno {
	count := bundle.Count(supply)
	switch {
	case count == 0:
		return api.ErrRange
	case len(table) < count:
		return api.ErrShort
	case len(table) > count:
		return api.ErrLong
	case table[0] != 0:
		return api.ErrRange
	}
	for _, value := range table {
		if value < 0 || value > api.MaxValue {
			return api.ErrRange
		}
	}
	return api.OK
}

// minimal returns the minimal list of a valid table of supply, however long it is. The empty bundle is not in it, since its
// value is 0.
func minimal(table []int64, supply api.Bundle) []api.Offer {
	// The values of a table need not grow with the bundles, so each becomes the greatest one of its bundle and the smaller ones.
	most := make([]int64, len(table))
	copy(most, table)
	var l []api.Offer
	rank := 0
	for b := range bundle.All(supply) {
		smaller := mostBelow(most, supply, b)
		if table[rank] > smaller {
			l = append(l, api.Offer{Want: b, Value: table[rank]})
		}
		most[rank] = max(most[rank], smaller)
		rank++
	}
	return l
}

// mostBelow returns the greatest value of the bundles that have one unit less than b, or 0 if there is none.
func mostBelow(values []int64, supply, b api.Bundle) int64 {
	var most int64
	for k, quantity := range b {
		if quantity > 0 {
			less := b
			less[k]--
			rank, _ := bundle.Rank(supply, less)
			most = max(most, values[rank])
		}
	}
	return most
}
