package bench

import (
	"skewbald/api"
	"skewbald/plank"
)

// validBook reports whether a book is valid.
func validBook(b api.BenchBook) bool {
	if plank.Check(b.Plank) != api.OK || !within(b.Benches, 1, api.BenchMany) || !within(b.Slack, 0, api.BenchSlack) {
		return false
	}
	return validLegs(b) && validAfter(b) && canBeListed(b)
}

func validLegs(b api.BenchBook) bool {
	if len(b.Legs) != len(b.Plank.Parts) {
		return false
	}
	for _, leg := range b.Legs {
		if !hasBench(b, leg.Bench) {
			return false
		}
	}
	return true
}

func validAfter(b api.BenchBook) bool {
	if len(b.After) > api.BenchAfter {
		return false
	}
	for _, p := range b.After {
		if !hasPart(b, p.First) || !hasPart(b, p.Then) || ofOnePart(p) {
			return false
		}
	}
	return true
}

// canBeListed reports whether all parts, those that are not cut too, can be put in a list that no pair of After speaks against.
func canBeListed(b api.BenchBook) bool {
	_, found := search{bookOf(b, allParts(b)), anyOrder}.first()
	return found
}

// allParts returns the numbers of all parts.
func allParts(b api.BenchBook) []int {
	var all []int
	for part := range len(b.Plank.Parts) {
		all = append(all, part)
	}
	return all
}

// ofOnePart reports whether both parts of a pair are the same: it stays as it is if they change places.
func ofOnePart(p api.BenchPair) bool {
	return p == api.BenchPair{First: p.Then, Then: p.First}
}

// hasBench reports whether a bench is one of a book.
func hasBench(b api.BenchBook, bench int) bool { return within(bench, 0, b.Benches-1) }

// hasPart reports whether a part is one of a book.
func hasPart(b api.BenchBook, part int) bool { return within(part, 0, len(b.Plank.Parts)-1) }

// within reports whether n is from low to high.
func within(n, low, high int) bool {
	return low <= n && n <= high
}
