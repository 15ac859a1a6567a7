package plank

// layer is a board on which some parts lie already.
type layer struct {
	board
	taken inches
}

// canLie reports whether a part surely can be cut at a place, and no part lies there yet.
func (l *layer) canLie(p place) bool {
	return l.answers[p] == surely && l.under(p).and(l.taken) == inches{}
}

// lay returns the first inches at which some parts surely can be cut together, and whether there are such.
func (d board) lay(parts []int) ([]int, bool) {
	l := layer{board: d}
	canLie := l.canLie
	// The same inches can be taken in many ways, always by the same parts: without this the search would grow too fast.
	deadEnds := map[inches]bool{}
	var next func(at []int) ([]int, bool)
	next = func(at []int) ([]int, bool) {
		if len(at) == len(parts) {
			return at, true
		}
		before := l.taken
		if deadEnds[before] {
			return nil, false
		}
		for p := range d.places(parts[len(at)]) {
			if !canLie(p) {
				continue
			}
			l.taken = before.or(d.under(p))
			if all, ok := next(append(at[:len(at):len(at)], p.at)); ok {
				return all, true
			}
			l.taken = before
		}
		deadEnds[before] = true
		return nil, false
	}
	return next(nil)
}
