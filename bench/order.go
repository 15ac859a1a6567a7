package bench

import (
	"iter"
	"slices"

	"skewbald/api"
)

// mustWait reports whether a leg cannot be cut as long as another one is not.
func (b *book) mustWait(leg, other int) bool {
	return b.before[api.BenchPair{First: other, Then: leg}]
}

// orders yields all orders, the first one first.
func (b *book) orders() iter.Seq[[]int] {
	return func(yield func(order []int) bool) {
		mustWait := b.mustWait
		var cutNext func(order, uncut []int) bool
		cutNext = func(order, uncut []int) bool {
			if len(uncut) == 0 {
				return yield(handedOn(order))
			}
		legs:
			for i, leg := range uncut {
				for _, other := range uncut {
					if mustWait(leg, other) {
						continue legs
					}
				}
				if !cutNext(with(order, leg), slices.Delete(slices.Clone(uncut), i, i+1)) {
					return false
				}
			}
			return true
		}
		cutNext(nil, b.cut)
	}
}

// isOrder reports whether a list is an order.
func (b *book) isOrder(list []int) bool {
	_, is := search{b, func(order []int) bool { return slices.Equal(order, list) }}.first()
	return is
}

// search looks for an order of a book.
type search struct {
	*book
	wanted func(order []int) bool
}

// anyOrder is what is wanted if each order will do.
func anyOrder(order []int) bool { return true }

// first returns the first order that is wanted, and whether there is one.
func (s search) first() (order []int, found bool) {
	for order := range s.orders() {
		if s.wanted(order) {
			return order, true
		}
	}
	return nil, false
}

// told returns the first order that is wanted, or ErrNone.
func (s search) told() ([]int, api.Errno) {
	order, found := s.first()
	if !found {
		return nil, api.ErrNone
	}
	return order, api.OK
}

// with returns a new list that has one number more.
func with(list []int, n int) []int {
	return append(list[:len(list):len(list)], n)
}

// handedOn returns a list with no room behind it.
func handedOn(list []int) []int {
	n := len(list)
	return list[:n:n]
}
