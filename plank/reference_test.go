package plank_test

// The reference finds by trial, straight from the definitions, what package plank must return.

import (
	"math/rand/v2"
	"slices"

	"skewbald/api"
)

// truths returns all truths of a plank: an inch for each of its knots.
func truths(w api.PlankWood) [][]int {
	all := [][]int{nil}
	for _, k := range w.Knots {
		var longer [][]int
		for _, known := range all {
			for at := k.Low; at <= k.High; at++ {
				longer = append(longer, append(slices.Clone(known), at))
			}
		}
		all = longer
	}
	return all
}

// soundIn reports whether a part that lies at an inch, turned or not, is sound in a truth.
func soundIn(truth []int, s api.PlankShape, at int, turned bool) bool {
	for _, j := range s.Joints {
		if turned {
			j = s.Long - 1 - j
		}
		if slices.Contains(truth, at+j) {
			return false
		}
	}
	return true
}

// lyings returns in which ways a part can lie: not turned, and turned.
func lyings(s api.PlankShape) []bool {
	if s.Turns {
		return []bool{false, true}
	}
	return []bool{false}
}

// canBe is the reference of Can, for a part that lies at the inch.
func canBe(w api.PlankWood, s api.PlankShape, at int) int {
	best := 0
	for _, turned := range lyings(s) {
		sound, all := 0, truths(w)
		for _, truth := range all {
			if soundIn(truth, s, at, turned) {
				sound++
			}
		}
		if sound == len(all) {
			best = 2
		} else if sound > 0 {
			best = max(best, 1)
		}
	}
	return best
}

// reference is a book with all spots of each part on each plank.
type reference struct {
	api.PlankBook
	spots [][][]int
}

func newReference(b api.PlankBook) reference {
	r := reference{PlankBook: b}
	for _, w := range b.Planks {
		var all [][]int
		for _, s := range b.Parts {
			var spots []int
			for at := 0; at+s.Long <= w.Long; at++ {
				if canBe(w, s, at) == 2 {
					spots = append(spots, at)
				}
			}
			all = append(all, spots)
		}
		r.spots = append(r.spots, all)
	}
	return r
}

// apart reports whether two parts have no inch in common.
func (r reference) apart(one, at, other, where int) bool {
	return at+r.Parts[one].Long <= where || where+r.Parts[other].Long <= at
}

// lay is the reference of Lay; nil and false if the parts cannot be laid.
func (r reference) lay(plank int, parts, at []int) ([]int, bool) {
	n := len(at)
	if n == len(parts) {
		return at, true
	}
spots:
	for _, spot := range r.spots[plank][parts[n]] {
		for i := range at {
			if !r.apart(parts[i], at[i], parts[n], spot) {
				continue spots
			}
		}
		if all, ok := r.lay(plank, parts, append(slices.Clone(at), spot)); ok {
			return all, true
		}
	}
	return nil, false
}

// canAll reports whether all parts can be cut from the planks: it gives each part to each plank.
func (r reference) canAll(parts, planks []int) bool {
	given := make([][]int, len(r.Planks))
	var give func(n int) bool
	give = func(n int) bool {
		if n == len(parts) {
			for _, p := range planks {
				if _, ok := r.lay(p, given[p], nil); !ok {
					return false
				}
			}
			return true
		}
		for _, p := range planks {
			given[p] = append(given[p], parts[n])
			ok := give(n + 1)
			given[p] = given[p][:len(given[p])-1]
			if ok {
				return true
			}
		}
		return false
	}
	return give(0)
}

// subsets returns all strictly increasing lists of the first n numbers, the shortest and then the first ones first.
func subsets(n int) [][]int {
	all := [][]int{nil}
	for i := range n {
		for _, l := range all {
			all = append(all, append(slices.Clone(l), i))
		}
	}
	slices.SortFunc(all, func(a, b []int) int {
		if len(a) != len(b) {
			return len(a) - len(b)
		}
		return slices.Compare(a, b)
	})
	return all
}

func firstNumbers(n int) []int {
	var l []int
	for i := range n {
		l = append(l, i)
	}
	return l
}

func (r reference) fewest() ([]int, bool) {
	for _, planks := range subsets(len(r.Planks)) {
		if r.canAll(firstNumbers(len(r.Parts)), planks) {
			return planks, true
		}
	}
	return nil, false
}

func (r reference) most() []int {
	var best []int
	for _, parts := range subsets(len(r.Parts)) {
		if len(parts) > len(best) && r.canAll(parts, firstNumbers(len(r.Planks))) {
			best = parts
		}
	}
	return best
}

func (r reference) lacks() (int, bool) {
	for part := range r.Parts {
		if !r.canAll(firstNumbers(part+1), firstNumbers(len(r.Planks))) {
			return part, true
		}
	}
	return 0, false
}

// worst returns how many parts Most returns at the worst, once the inch of a knot is known.
func (r reference) worst(plank, knot int) int {
	k := r.Planks[plank].Knots[knot]
	worst := len(r.Parts)
	for at := k.Low; at <= k.High; at++ {
		b := clone(r.PlankBook)
		b.Planks[plank].Knots[knot] = just(at)
		worst = min(worst, len(newReference(b).most()))
	}
	return worst
}

func (r reference) look() (plank, knot int, ok bool) {
	best := -1
	for p, w := range r.Planks {
		for k := range w.Knots {
			if n := r.worst(p, k); n > best {
				plank, knot, best = p, k, n
			}
		}
	}
	return plank, knot, best >= 0
}

// clone returns a copy of a book that shares no memory with it.
func clone(b api.PlankBook) api.PlankBook {
	b.Planks, b.Parts = slices.Clone(b.Planks), slices.Clone(b.Parts)
	for i := range b.Planks {
		b.Planks[i].Knots = slices.Clone(b.Planks[i].Knots)
	}
	for i := range b.Parts {
		b.Parts[i].Joints = slices.Clone(b.Parts[i].Joints)
	}
	return b
}

// books returns valid books, always the same ones, with planks up to so many inches and so many parts.
func books(seed uint64, many, long, parts int) []api.PlankBook {
	r := rand.New(rand.NewPCG(seed, 1))
	var all []api.PlankBook
	for range many {
		var b api.PlankBook
		for range 1 + r.IntN(api.PlankMany) {
			b.Planks = append(b.Planks, anyWood(r, long))
		}
		for range 1 + r.IntN(parts) {
			b.Parts = append(b.Parts, anyShape(r, min(api.PlankPart, (long+1)/2)))
		}
		all = append(all, b)
	}
	return all
}

func anyWood(r *rand.Rand, long int) api.PlankWood {
	w := api.PlankWood{Long: 1 + r.IntN(long)}
	for range r.IntN(api.PlankKnots + 1) {
		low := r.IntN(w.Long)
		wide := r.IntN(1 + min(w.Long-1-low, r.IntN(api.PlankWide+1)))
		w.Knots = append(w.Knots, to(low, low+wide))
	}
	return w
}

func anyShape(r *rand.Rand, long int) api.PlankShape {
	s := api.PlankShape{Long: 1 + r.IntN(long), Turns: r.IntN(2) == 1}
	for j := range s.Long {
		if len(s.Joints) < api.PlankJoints && r.IntN(3) == 0 {
			s.Joints = append(s.Joints, j)
		}
	}
	return s
}
