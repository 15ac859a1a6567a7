package plank

import (
	"cmp"
	"math/bits"
	"slices"

	"skewbald/api"
)

// cuts tells of each set of parts (bit n of its index is the part n) whether all of them surely can be cut.
type cuts [1 << api.PlankParts]bool

// beside returns the sets that can be cut if one part of them is cut from one stock of wood, and the rest from another one.
func (c cuts) beside(d cuts) cuts {
	var both cuts
	for one, can := range c {
		for other, could := range d {
			if can && could && one&other == 0 {
				both[one|other] = true
			}
		}
	}
	return both
}

// most returns how many parts can be cut at most.
func (c cuts) most() int {
	var counts []int
	for parts, can := range c {
		if can {
			counts = append(counts, bits.OnesCount(uint(parts)))
		}
	}
	return greatest(0, counts...)
}

// stock is a valid book in the calculation, with what can be cut from each plank alone.
type stock struct {
	api.PlankBook
	alone [api.PlankMany]cuts
}

func newStock(b api.PlankBook) stock {
	s := stock{PlankBook: b}
	for plank := range len(s.Planks) {
		s.alone[plank] = cutsOf(b, plank)
	}
	return s
}

// cutsOf returns what can be cut from one plank.
func cutsOf(b api.PlankBook, plank int) cuts {
	d := newBoard(b, plank)
	var c cuts
	for parts := range 1 << len(b.Parts) {
		// This spares the searches that would be the longest ones.
		if c.canLessOne(parts) {
			_, c[parts] = d.lay(members(parts))
		}
	}
	return c
}

// canLessOne reports whether what is left of a set can be cut, whichever of its parts is left out.
func (c cuts) canLessOne(parts int) bool {
	for _, part := range members(parts) {
		if !c[parts&^(1<<part)] {
			return false
		}
	}
	return true
}

// cuts returns what can be cut from a set of planks.
func (s stock) cuts(planks int) cuts {
	c := cuts{0: true}
	for plank := range len(s.Planks) {
		if planks>>plank&1 == 1 {
			c = c.beside(s.alone[plank])
		}
	}
	return c
}

// allCuts returns what can be cut from all planks.
func (s stock) allCuts() cuts {
	return s.cuts(firstOnes(len(s.Planks)))
}

// worst returns how many parts can be cut at the worst, once the inch of a knot is known.
func (s stock) worst(plank, knot int) int {
	worst := len(s.Parts)
	span := s.Planks[plank].Knots[knot]
	for at := span.Low; at <= span.High; at++ {
		worst = min(worst, s.looked(plank, knot, at).allCuts().most())
	}
	return worst
}

// looked returns the stock as it is once a knot is found at an inch.
func (s stock) looked(plank, knot, at int) stock {
	s.Planks = slices.Clone(s.Planks)
	knots := slices.Clone(s.Planks[plank].Knots)
	knots[knot] = api.Span{Low: at, High: at}
	s.Planks[plank].Knots = knots
	s.alone[plank] = cutsOf(s.PlankBook, plank)
	return s
}

// firstOnes returns the set of the first n numbers.
func firstOnes(n int) int { return 1<<n - 1 }

// members returns the numbers of a set, increasing.
func members(set int) []int {
	var list []int
	for n := range bits.Len(uint(set)) {
		if set>>n&1 == 1 {
			list = append(list, n)
		}
	}
	return list
}

// greatest returns the greatest of several numbers.
func greatest[N cmp.Ordered](first N, others ...N) N {
	for _, n := range others {
		first = max(first, n)
	}
	return first
}
