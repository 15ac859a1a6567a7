package stand_test

// The reference finds by trial, straight from the definitions, what package stand must return.

import (
	"math/big"
	"math/rand/v2"
	"slices"

	"skewbald/api"
)

// weighings returns all truths of a book, whatever was tried: a weight for each of its parts.
func weighings(b api.StandBook) [][]int {
	all := [][]int{nil}
	for _, p := range b.Parts {
		var longer [][]int
		for _, known := range all {
			for weight := p.Weight.Low; weight <= p.Weight.High; weight++ {
				longer = append(longer, append(slices.Clone(known), weight))
			}
		}
		all = longer
	}
	return all
}

// marginIn returns top and bottom of the margin in a truth, with a child and with lead.
func marginIn(b api.StandBook, truth []int, weight, lean, lead, along int) (top, bottom int) {
	w := weight + lead
	m := weight*(b.Along+lean) + lead*along
	h := weight * b.High
	for n, p := range b.Parts {
		w += truth[n]
		m += truth[n] * p.Along
		h += truth[n] * p.High
	}
	if b.Kind == api.StandFeet {
		return min(b.Back*w+m, b.Front*w-m), w
	}
	d := b.Radius*w - h
	return min(b.Back*d+b.Radius*m, b.Front*d-b.Radius*m), w
}

func tipsIn(b api.StandBook, truth []int, weight, lean int) bool {
	top, _ := marginIn(b, truth, weight, lean, 0, 0)
	return top < 0
}

// wrongIn returns the trials that are wrong in a truth.
func wrongIn(b api.StandBook, truth []int) []int {
	var wrong []int
	for n, t := range b.Trials {
		if tipsIn(b, truth, t.Weight, t.Lean) != t.Tipped {
			wrong = append(wrong, n)
		}
	}
	return wrong
}

// truths returns the truths in which all trials are right.
func truths(b api.StandBook) [][]int {
	var all [][]int
	for _, truth := range weighings(b) {
		if len(wrongIn(b, truth)) == 0 {
			all = append(all, truth)
		}
	}
	return all
}

// tips is the reference of Tips, and margin that of Margin; both want a book that can be true.
func tips(b api.StandBook, weight, lean int) int {
	count, all := 0, truths(b)
	for _, truth := range all {
		if tipsIn(b, truth, weight, lean) {
			count++
		}
	}
	switch count {
	case 0:
		return 0
	case len(all):
		return 2
	}
	return 1
}

func margin(b api.StandBook, weight, lean int) api.StandRatio {
	var least *big.Rat
	for _, truth := range truths(b) {
		top, bottom := marginIn(b, truth, weight, lean, 0, 0)
		r := big.NewRat(int64(top), int64(bottom))
		if least == nil || r.Cmp(least) < 0 {
			least = r
		}
	}
	return api.StandRatio{Top: int(least.Num().Int64()), Bottom: int(least.Denom().Int64())}
}

// safeWith reports whether a horse with lead tips with no child of a weight.
func safeWith(b api.StandBook, all [][]int, weight, lead, along int) bool {
	for _, truth := range all {
		for lean := -b.Lean; lean <= b.Lean; lean++ {
			if top, _ := marginIn(b, truth, weight, lean, lead, along); top < 0 {
				return false
			}
		}
	}
	return true
}

func safe(b api.StandBook, weight int) bool { return safeWith(b, truths(b), weight, 0, 0) }

// safeForAll reports whether a horse with lead is safe for all weights.
func safeForAll(b api.StandBook, all [][]int, lead, along int) bool {
	for weight := 1; weight <= b.Limit; weight++ {
		if !safeWith(b, all, weight, lead, along) {
			return false
		}
	}
	return true
}

// least, lead and wider return -1 if there is no such number.
func least(b api.StandBook) int {
	for weight := 1; weight <= b.Limit; weight++ {
		if !safe(b, weight) {
			return weight
		}
	}
	return -1
}

func lead(b api.StandBook, along int) int {
	all := truths(b)
	for n := 0; n <= 99; n++ {
		if safeForAll(b, all, n, along) {
			return n
		}
	}
	return -1
}

func wider(b api.StandBook) int {
	all := truths(b)
	for n := 0; n <= 20; n++ {
		c := b
		c.Front, c.Back = b.Front+n, b.Back+n
		if safeForAll(c, all, 0, 0) {
			return n
		}
	}
	return -1
}

// room is the reference of Room; false if there is none.
func room(b api.StandBook, weight int) (api.Span, bool) {
	if tips(b, weight, 0) > 0 {
		return api.Span{}, false
	}
	var s api.Span
	for s.Low > -b.Lean && tips(b, weight, s.Low-1) == 0 {
		s.Low--
	}
	for s.High < b.Lean && tips(b, weight, s.High+1) == 0 {
		s.High++
	}
	return s, true
}

// lists returns all strictly increasing lists of the first n numbers, the shortest and then the first ones first.
func lists(n int) [][]int {
	var all [][]int
	for set := range 1 << n {
		var l []int
		for i := range n {
			if set>>i&1 == 1 {
				l = append(l, i)
			}
		}
		all = append(all, l)
	}
	slices.SortFunc(all, func(l, m []int) int {
		if len(l) != len(m) {
			return len(l) - len(m)
		}
		return slices.Compare(l, m)
	})
	return all
}

// without returns a book without some trials.
func without(b api.StandBook, wrong []int) api.StandBook {
	trials := b.Trials
	b.Trials = nil
	for n, t := range trials {
		if !slices.Contains(wrong, n) {
			b.Trials = append(b.Trials, t)
		}
	}
	return b
}

func wrong(b api.StandBook) []int {
	for _, l := range lists(len(b.Trials)) {
		if len(truths(without(b, l))) > 0 {
			return l
		}
	}
	panic("no truth without any trials")
}

// clone returns a copy of a book that shares no memory with it.
func clone(b api.StandBook) api.StandBook {
	b.Parts, b.Trials = slices.Clone(b.Parts), slices.Clone(b.Trials)
	return b
}

// books returns valid books, always the same ones. Some of those with trials cannot be true.
func books(seed uint64, many int) []api.StandBook {
	r := rand.New(rand.NewPCG(seed, 2))
	var all []api.StandBook
	for range many {
		b := anyBook(r)
		truth := weighings(b)[0]
		for n := range truth {
			truth[n] += r.IntN(b.Parts[n].Weight.High - b.Parts[n].Weight.Low + 1)
		}
		for range r.IntN(api.StandTrials + 1) {
			b.Trials = append(b.Trials, anyTrial(r, b, truth))
		}
		all = append(all, b)
	}
	return all
}

// trueBooks returns the books that can be true.
func trueBooks(seed uint64, many int) []api.StandBook {
	return slices.DeleteFunc(books(seed, many), func(b api.StandBook) bool { return len(truths(b)) == 0 })
}

// anyBook returns a book without trials, with a horse that often can tip with some children.
func anyBook(r *rand.Rand) api.StandBook {
	b := api.StandBook{Front: 2 + r.IntN(14), Back: 2 + r.IntN(14), Along: r.IntN(13) - 6, High: r.IntN(40), Lean: r.IntN(13), Limit: 1 + r.IntN(14)}
	if r.IntN(2) == 0 {
		b.Kind, b.Radius = api.StandBow, 10+r.IntN(111)
	}
	// Parts in front and behind by turns, so that it matters what each of them weighs.
	low, along := 1+r.IntN(16), r.IntN(21)
	for range 1 + r.IntN(api.StandParts) {
		b.Parts = append(b.Parts, part(to(low, low+r.IntN(1+r.IntN(5))), along+r.IntN(3), r.IntN(41)))
		along = -along
	}
	return b
}

// anyTrial returns a trial near to where the horse tips. Most trials are right in the truth.
func anyTrial(r *rand.Rand, b api.StandBook, truth []int) api.StandTrial {
	t := trial(1+r.IntN(b.Limit), r.IntN(2*b.Lean+1)-b.Lean, r.IntN(2) == 0)
	for range 4 {
		n := trial(1+r.IntN(b.Limit), r.IntN(2*b.Lean+1)-b.Lean, false)
		if count := tips(without(b, numbers(len(b.Trials))), n.Weight, n.Lean); count == 1 {
			t = n
		}
	}
	if r.IntN(3) > 0 {
		t.Tipped = tipsIn(b, truth, t.Weight, t.Lean)
	}
	return t
}

// numbers returns the first n numbers.
func numbers(n int) []int {
	var l []int
	for i := range n {
		l = append(l, i)
	}
	return l
}
