package bench_test

// The reference goes through all lists of parts one by one, straight from the definitions, and so finds what package bench must return.

import (
	"math/rand/v2"
	"slices"

	"skewbald/api"
	"skewbald/plank"
)

// cut returns the parts that are cut.
func cut(b api.BenchBook) []int {
	l, _ := plank.Most(b.Plank)
	return l
}

// lists returns all lists of some increasing numbers, each once, in their order.
func lists(numbers []int) [][]int {
	if len(numbers) == 0 {
		return [][]int{nil}
	}
	var all [][]int
	for _, first := range numbers {
		rest := slices.DeleteFunc(slices.Clone(numbers), func(n int) bool { return n == first })
		for _, l := range lists(rest) {
			all = append(all, append([]int{first}, l...))
		}
	}
	return all
}

// keepsPairs reports whether in a list the First of each pair is before its Then, if both are there.
func keepsPairs(list []int, pairs []api.BenchPair) bool {
	for _, p := range pairs {
		first, then := slices.Index(list, p.First), slices.Index(list, p.Then)
		if first >= 0 && then >= 0 && first > then {
			return false
		}
	}
	return true
}

// orders returns all orders, the first one first.
func orders(b api.BenchBook) [][]int {
	return slices.DeleteFunc(lists(cut(b)), func(l []int) bool { return !keepsPairs(l, b.After) })
}

// counts returns how many of some parts are left legs at a bench, and how many are right ones.
func counts(b api.BenchBook, parts []int, at int) (lefts, rights int) {
	for _, part := range parts {
		switch leg := b.Legs[part]; {
		case leg.Bench != at:
		case leg.Left:
			lefts++
		default:
			rights++
		}
	}
	return lefts, rights
}

// differ returns by how many left and right legs among some parts differ, at the bench at which they differ the most.
func differ(b api.BenchBook, parts []int) int {
	most := 0
	for at := range b.Benches {
		lefts, rights := counts(b, parts, at)
		most = max(most, lefts-rights, rights-lefts)
	}
	return most
}

// widest returns by how many left and right legs differ behind the place of an order at which they differ the most.
func widest(b api.BenchBook, order []int) int {
	most := 0
	for place := range order {
		most = max(most, differ(b, order[:place+1]))
	}
	return most
}

// none stands for a place that there is not.
const none = -1

// firstBreak returns the first place at which an order breaks, or none.
func firstBreak(b api.BenchBook, order []int) int {
	for place := range order {
		if differ(b, order[:place+1]) > b.Slack {
			return place
		}
	}
	return none
}

// breaking returns the orders that break, or those that keep even.
func breaking(b api.BenchBook, breaks bool) [][]int {
	return slices.DeleteFunc(orders(b), func(l []int) bool { return (firstBreak(b, l) != none) != breaks })
}

// wides returns for each order by how many legs differ.
func wides(b api.BenchBook) []int {
	var all []int
	for _, order := range orders(b) {
		all = append(all, widest(b, order))
	}
	return all
}

// withPair returns a book with one pair more.
func withPair(b api.BenchBook, p api.BenchPair) api.BenchBook {
	return changed(b, func(b *api.BenchBook) { b.After = append(b.After, p) })
}

// ties returns all pairs with which there is an order and none breaks, the first one first; none if none breaks without them.
func ties(b api.BenchBook) []api.BenchPair {
	var all []api.BenchPair
	if len(breaking(b, true)) == 0 {
		return nil
	}
	for _, first := range cut(b) {
		for _, then := range cut(b) {
			tied := withPair(b, pair(first, then))
			if first != then && len(breaking(tied, false)) > 0 && len(breaking(tied, true)) == 0 {
				all = append(all, pair(first, then))
			}
		}
	}
	return all
}

// clone returns a copy of a book that shares no memory with it.
func clone(b api.BenchBook) api.BenchBook {
	b.Legs, b.After = slices.Clone(b.Legs), slices.Clone(b.After)
	b.Plank.Planks, b.Plank.Parts = slices.Clone(b.Plank.Planks), slices.Clone(b.Plank.Parts)
	for i := range b.Plank.Planks {
		b.Plank.Planks[i].Knots = slices.Clone(b.Plank.Planks[i].Knots)
	}
	for i := range b.Plank.Parts {
		b.Plank.Parts[i].Joints = slices.Clone(b.Plank.Parts[i].Joints)
	}
	return b
}

// books returns valid books, always the same ones; in half of them all parts are cut.
func books(seed uint64, many int) []api.BenchBook {
	r := rand.New(rand.NewPCG(seed, 4))
	var all []api.BenchBook
	for n := range many {
		parts := 1 + r.IntN(api.PlankParts)
		if n%2 == 0 {
			parts = max(parts, 3)
		}
		all = append(all, anyBook(r, parts, n%2 == 0))
	}
	return all
}

// anyBook returns a book of so many parts.
func anyBook(r *rand.Rand, parts int, allCut bool) api.BenchBook {
	b := api.BenchBook{Plank: anyPlank(r, parts, allCut), Benches: 1 + r.IntN(api.BenchMany), Slack: r.IntN(api.BenchSlack)}
	if r.IntN(9) == 0 {
		b.Slack = api.BenchSlack
	}
	for range parts {
		b.Legs = append(b.Legs, api.BenchLeg{Bench: r.IntN(b.Benches), Left: r.IntN(2) == 0})
	}
	b.After = anyPairs(r, parts, r.IntN(api.BenchAfter+1))
	return b
}

// anyPlank returns planks from which all parts can be cut, or not quite.
func anyPlank(r *rand.Rand, parts int, allCut bool) api.PlankBook {
	b := api.PlankBook{Planks: []api.PlankWood{{Long: 15}}}
	for range parts {
		s := api.PlankShape{Long: 3}
		if !allCut {
			s = api.PlankShape{Long: 3 + r.IntN(4), Joints: []int{r.IntN(3)}, Turns: r.IntN(2) == 0}
		}
		b.Parts = append(b.Parts, s)
	}
	if !allCut {
		low := r.IntN(12)
		b.Planks[0].Knots = []api.Span{{Low: low, High: low + r.IntN(3)}}
	}
	return b
}

// anyPairs returns at most so many pairs, which some list of all parts keeps.
func anyPairs(r *rand.Rand, parts, many int) []api.BenchPair {
	list := r.Perm(parts)
	var all []api.BenchPair
	for range many {
		i, j := r.IntN(parts), r.IntN(parts)
		if i < j {
			all = append(all, pair(list[i], list[j]))
		}
	}
	return all
}
