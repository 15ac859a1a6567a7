package plank

import (
	"iter"

	"skewbald/api"
)

// The answers of Can.
const (
	never = iota
	perhaps
	surely
)

// inches marks some inches of a plank.
type inches [api.PlankLong]bool

// between marks all inches from low to high.
func between(low, high int) inches {
	var m inches
	for i := low; i <= high; i++ {
		m[i] = true
	}
	return m
}

// and marks what both mark.
func (m inches) and(n inches) inches {
	for i := range m {
		m[i] = m[i] && n[i]
	}
	return m
}

// or marks what either one marks.
func (m inches) or(n inches) inches {
	for i := range m {
		m[i] = m[i] || n[i]
	}
	return m
}

// knot is what is known of where a knot is.
type knot api.Span

func (k knot) inches() inches { return between(k.Low, k.High) }

// canHit reports whether the knot is at a joint in some truth.
func (k knot) canHit(joints inches) bool { return joints.and(k.inches()) != inches{} }

// mustHit reports whether the knot is at a joint in each truth.
func (k knot) mustHit(joints inches) bool { return joints.and(k.inches()) == k.inches() }

// spoilsNothing stands for the answer that each knot allows.
func (k knot) spoilsNothing(joints inches) bool { return false }

// verdict is an answer, and which knots do not allow it. Knots are independent, so each of them is asked alone.
type verdict struct {
	answer int
	spoils func(k knot, joints inches) bool
}

// verdicts returns all verdicts, the least sure one first.
func verdicts() []verdict {
	return []verdict{
		{never, knot.spoilsNothing},
		{perhaps, knot.mustHit},
		{surely, knot.canHit},
	}
}

// place is a part, and the inch of a plank at which it lies.
type place struct{ part, at int }

// board is one plank of a book, with the answer for each place on it.
type board struct {
	api.PlankWood
	parts   []api.PlankShape
	answers map[place]int
}

func newBoard(b api.PlankBook, plank int) board {
	d := board{b.Planks[plank], b.Parts, map[place]int{}}
	for part := range len(b.Parts) {
		for _, v := range verdicts() {
			d.judge(part, v)
		}
	}
	return d
}

// judge notes a verdict's answer at each inch at which no knot spoils it. A surer verdict comes later, and replaces the answer.
func (d board) judge(part int, v verdict) {
places:
	for p, joints := range d.lyings(part) {
		for _, k := range d.Knots {
			if v.spoils(knot(k), joints) {
				continue places
			}
		}
		d.answers[p] = v.answer
	}
}

// places yields all places of a part on the plank, by their inches.
func (d board) places(part int) iter.Seq[place] {
	behind := place{part, max(0, d.Long-d.parts[part].Long+1)}
	return func(yield func(place) bool) {
		for p := (place{part, 0}); p != behind; p.at++ {
			if !yield(p) {
				return
			}
		}
	}
}

// lyings yields each place of a part with the inches of its joints there: as it is, and turned if it can be.
func (d board) lyings(part int) iter.Seq2[place, inches] {
	return func(yield func(place, inches) bool) {
		for p := range d.places(part) {
			if !yield(p, d.joints(p)) {
				return
			}
			if d.parts[part].Turns && !yield(p, d.turnedJoints(p)) {
				return
			}
		}
	}
}

// joints marks the inches of a part's joints, as it is.
func (d board) joints(p place) inches {
	var m inches
	for _, j := range d.parts[p.part].Joints {
		m[p.at+j] = true
	}
	return m
}

// turnedJoints marks the inches of a part's joints if it lies turned.
func (d board) turnedJoints(p place) inches {
	s := d.parts[p.part]
	var m inches
	for _, j := range s.Joints {
		m[p.at+s.Long-1-j] = true
	}
	return m
}

// under marks all inches of a part.
func (d board) under(p place) inches {
	return between(p.at, p.at+d.parts[p.part].Long-1)
}
