package dapple

import (
	"cmp"
	"iter"
)

// lists yields all strictly increasing lists of so many numbers below an end, the first one first.
func lists(end, many int) iter.Seq[[]int] {
	return func(yield func(list []int) bool) {
		var add func(list []int, from int) bool
		add = func(list []int, from int) bool {
			if len(list) == many {
				return yield(handedOn(list))
			}
			for n := from; n < end; n++ {
				if !add(with(list, n), n+1) {
					return false
				}
			}
			return true
		}
		add(nil, 0)
	}
}

// with returns a new list that has one thing more.
func with[T any](list []T, t T) []T {
	return append(handedOn(list), t)
}

// handedOn returns a list with no room behind it.
func handedOn[T any](list []T) []T {
	n := len(list)
	return list[:n:n]
}

// first returns the first one of several things, and whether there is one.
func first[T any](all iter.Seq[T]) (T, bool) {
	for t := range all {
		return t, true
	}
	var none T
	return none, false
}

// greatest returns the greatest of several numbers.
func greatest[N cmp.Ordered](first N, others ...N) N {
	for _, n := range others {
		first = max(first, n)
	}
	return first
}
