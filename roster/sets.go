package roster

import (
	"iter"

	"saleroom/api"
)

// Names returns the names of the bidders that belong to the set.
func Names(l []api.Bidder, members int) []string {
	var names []string
	for i := range elements(members) {
		// The set may have members that the list does not have.
		if i >= len(l) {
			break
		}
		names = append(names, l[i].Name)
	}
	return names
}

// elements yields the indices of the bidders that belong to the set in ascending order, as far as a sale can have them.
func elements(members int) iter.Seq[int] {
	return func(yield func(int) bool) {
		for i := range api.MaxBidders {
			if has(members, i) && !yield(i) {
				return
			}
		}
	}
}

// has reports whether bidder i belongs to the set.
func has(members, i int) bool {
	return members>>i&1 == 1
}

// Members returns the set of the bidders with these names.
func Members(l []api.Bidder, names []string) (int, api.Errno) {
	if len(l) > api.MaxBidders {
		return 0, api.ErrLong
	}
	members := 0
next:
	for _, name := range names {
		for i, b := range l {
			if b.Name != name {
				continue
			}
			// Only the first bidder with a name can be meant, even if another one with it is not a member yet.
			if has(members, i) {
				return 0, api.ErrExists
			}
			members |= 1 << i
			continue next
		}
		return 0, api.ErrNone
	}
	return members, api.OK
}

// Sets yields all sets of the first n bidders in ascending order.
func Sets(n int) iter.Seq[int] {
	return func(yield func(int) bool) {
		if n < 0 || n > api.MaxBidders {
			return
		}
		for members := range 1 << n {
			if !yield(members) {
				return
			}
		}
	}
}
