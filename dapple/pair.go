package dapple

import (
	"slices"

	"skewbald/api"
)

// firstPair returns the first two of so many horses, the lesser number first, that are so to each other.
func firstPair(horses int, are func(one, other int) bool) (one, other int, e api.Errno) {
	for pair := range lists(horses, 2) {
		if are(pair[0], pair[1]) {
			return pair[0], pair[1], api.OK
		}
	}
	return 0, 0, api.ErrNone
}

// clashes returns the number of pairs of horses that can be the same.
func (b *book) clashes() int {
	sum := 0
	for pair := range lists(len(b.Horses), 2) {
		if b.canBeSame(pair[0], pair[1]) {
			sum++
		}
	}
	return sum
}

// drop returns the first one of the shortest lists of horses without which no two can be the same. There is one: without all horses no two are left.
func (b *book) drop() []int {
	for many := range len(b.Horses) + 1 {
		for out := range lists(len(b.Horses), many) {
			if b.isRidBy(out) {
				return out
			}
		}
	}
	return nil
}

// isRidBy reports whether no two horses can be the same that are not in a list.
func (b *book) isRidBy(out []int) bool {
	areLeft := func(one, other int) bool {
		return !slices.Contains(out, one) && !slices.Contains(out, other) && b.canBeSame(one, other)
	}
	_, _, e := firstPair(len(b.Horses), areLeft)
	return e == api.ErrNone
}
