// Package plank is layer 1: it cuts the parts of horses from planks whose knots are known only between bounds (see doc/01-plank.md).
package plank

import "skewbald/api"

// Check returns ErrPlank unless the book is valid.
func Check(b api.PlankBook) api.Errno {
	if !validBook(b) {
		return api.ErrPlank
	}
	return api.OK
}

// Can returns 2 if a part surely can be cut from a plank at an inch, 1 if it perhaps can, and 0 if it cannot.
func Can(b api.PlankBook, plank, part, at int) (int, api.Errno) {
	if e := checkAsk(b, plank, part); e != api.OK {
		return 0, e
	}
	answer, lies := newBoard(b, plank).answers[place{part, at}]
	if !lies {
		return 0, api.ErrPlankAsk
	}
	return answer, api.OK
}

// Spots returns all inches of a plank at which a part surely can be cut, increasing.
func Spots(b api.PlankBook, plank, part int) ([]int, api.Errno) {
	if e := checkAsk(b, plank, part); e != api.OK {
		return nil, e
	}
	d := newBoard(b, plank)
	var spots []int
	for p := range d.places(part) {
		if d.answers[p] == surely {
			spots = append(spots, p.at)
		}
	}
	return spots, api.OK
}

// Lay returns the first inches of a plank at which some parts surely can be cut together, in the order of the parts.
func Lay(b api.PlankBook, plank int, parts []int) ([]int, api.Errno) {
	if e := checkAsk(b, plank, parts...); e != api.OK {
		return nil, e
	}
	if !increasing(parts) {
		return nil, api.ErrPlankAsk
	}
	inches, ok := newBoard(b, plank).lay(parts)
	if !ok {
		return nil, api.ErrNone
	}
	return inches, api.OK
}

// Fewest returns the first of the shortest lists of planks from which all parts can be cut.
func Fewest(b api.PlankBook) ([]int, api.Errno) {
	if e := Check(b); e != api.OK {
		return nil, e
	}
	s := newStock(b)
	c := chooser{better: fewer}
	for planks := range 1 << len(b.Planks) {
		if s.cuts(planks)[firstOnes(len(b.Parts))] {
			c.offer(listed(planks))
		}
	}
	if !c.found {
		return nil, api.ErrNone
	}
	return c.told(), api.OK
}

// Most returns the first of the longest lists of parts that can be cut from all planks.
func Most(b api.PlankBook) ([]int, api.Errno) {
	if e := Check(b); e != api.OK {
		return nil, e
	}
	c := chooser{better: more}
	for parts, can := range newStock(b).allCuts() {
		if can {
			c.offer(listed(parts))
		}
	}
	return c.told(), api.OK
}

// Lacks returns the first part that cannot be cut together with all parts before it.
func Lacks(b api.PlankBook) (int, api.Errno) {
	if e := Check(b); e != api.OK {
		return 0, e
	}
	cuts := newStock(b).allCuts()
	for part := range len(b.Parts) {
		if !cuts[firstOnes(part+1)] {
			return part, api.OK
		}
	}
	return 0, api.ErrNone
}

// Look returns the plank and the number of the knot that it is best to look for.
func Look(b api.PlankBook) (plank, knot int, e api.Errno) {
	if e := Check(b); e != api.OK {
		return 0, 0, e
	}
	s := newStock(b)
	c := chooser{better: more}
	for plank := range len(b.Planks) {
		for knot := range len(b.Planks[plank].Knots) {
			c.offer(choice{[]int{plank, knot}, s.worst(plank, knot)})
		}
	}
	if !c.found {
		return 0, 0, api.ErrNone
	}
	return c.best.list[0], c.best.list[1], api.OK
}

// checkAsk returns the error of a book first, then that of numbers of which there is no plank or part.
func checkAsk(b api.PlankBook, plank int, parts ...int) api.Errno {
	if e := Check(b); e != api.OK {
		return e
	}
	if !isNumber(b.Planks, plank) {
		return api.ErrPlankAsk
	}
	for _, part := range parts {
		if !isNumber(b.Parts, part) {
			return api.ErrPlankAsk
		}
	}
	return api.OK
}

// isNumber reports whether n is the number of something in a list.
func isNumber[T any](list []T, n int) bool {
	return n >= 0 && n < len(list)
}
