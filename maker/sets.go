package maker

import (
	"cmp"
	"slices"

	"skewbald/api"
)

// set is a set of values, or of kinds.
type set int

// everyValue is the set of all values.
const everyValue = 1<<api.MakerValues - 1

// has reports whether a number is in a set.
func (s set) has(n int) bool { return s>>n&1 == 1 }

// sets is a set of values for each kind; one that a book does not have has all of them.
type sets [api.MakerKinds]set

// allValues returns all values of each kind.
func allValues() sets {
	var s sets
	for kind := range s {
		s[kind] = everyValue
	}
	return s
}

// lacksSome reports whether some kind has no value.
func (s sets) lacksSome() bool { return slices.Contains(s[:], 0) }

// common returns the values of each kind that are in both.
func (s sets) common(other sets) sets {
	for kind := range s {
		s[kind] &= other[kind]
	}
	return s
}

// those returns all numbers below an end of which something is so, increasing.
func those(end int, so func(n int) bool) []int {
	var list []int
	for n := range end {
		if so(n) {
			list = append(list, n)
		}
	}
	return handedOn(list)
}

// with returns a new list that has one number more.
func with(list []int, n int) []int {
	return append(list[:len(list):len(list)], n)
}

// handedOn returns a list with no room behind it.
func handedOn(list []int) []int {
	n := len(list)
	return list[:n:n]
}

// greatest returns the greatest of several numbers.
func greatest[N cmp.Ordered](first N, others ...N) N {
	for _, n := range others {
		first = max(first, n)
	}
	return first
}
