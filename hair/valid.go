package hair

import (
	"slices"

	"skewbald/api"
)

// validBook reports whether a book is valid.
func validBook(b api.HairBook) bool {
	if len(b.Hanks) > api.HairHanks || len(b.Horses) > api.HairHorses {
		return false
	}
	for _, h := range b.Hanks {
		if !validHank(h) {
			return false
		}
	}
	for _, h := range b.Horses {
		if !validHorse(horse{h}) {
			return false
		}
	}
	return within(b.Dark, 0, api.HairDark) && within(b.Near, 0, api.HairNear) && within(b.Match, 0, api.HairNear)
}

// validHank reports whether a hank's weight and shade are known well enough.
func validHank(h api.HairHank) bool {
	return validSpan(h.Weight, 1, api.HairOunces, api.HairWide) && validSpan(h.Shade, 0, api.HairShades, api.HairTint)
}

// validSpan reports whether a span is from low to high, its two ends no more than wide apart.
func validSpan(s api.Span, low, high, wide int) bool {
	return within(s.Low, low, high) && within(s.High, s.Low, min(s.Low+wide, high))
}

// validHorse reports whether all that a horse wants can be had.
func validHorse(h horse) bool {
	for _, w := range wants() {
		if !within(w.of(h), w.least, w.most) {
			return false
		}
	}
	return true
}

// isShade reports whether a hank can be of a shade.
func isShade(shade int) bool { return within(shade, 0, api.HairShades) }

// hasHank reports whether a hank is one of a book.
func hasHank(b api.HairBook, hank int) bool { return within(hank, 0, len(b.Hanks)-1) }

// hasHorse reports whether a horse is one of a book.
func hasHorse(b api.HairBook, horse int) bool { return within(horse, 0, len(b.Horses)-1) }

// isPlan reports whether a list has a hank for each part of each horse.
func isPlan(b api.HairBook, plan []int) bool {
	isNone := func(hank int) bool { return !hasHank(b, hank) }
	return len(plan) == parts*len(b.Horses) && !slices.ContainsFunc(plan, isNone)
}

// within reports whether n is from low to high.
func within(n, low, high int) bool {
	return low <= n && n <= high
}
