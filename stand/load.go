package stand

import "skewbald/api"

// load is the sum of some weights, and the sums of each weight times how far along the horse it is, and times how high.
type load struct{ weight, along, high int }

// with adds a weight to a load.
func (l load) with(weight, along, high int) load {
	return load{l.weight + weight, l.along + weight*along, l.high + weight*high}
}

// side is one to which a horse of a kind can tip, with the top of the margin there.
type side struct {
	kind int
	top  func(b *book, l load) int
}

// sides returns the sides of each kind.
func sides() []side {
	return []side{
		{api.StandFeet, (*book).feetBack},
		{api.StandFeet, (*book).feetFront},
		{api.StandBow, (*book).bowBack},
		{api.StandBow, (*book).bowFront},
	}
}

func (b *book) feetBack(l load) int { return b.Back*l.weight + l.along }

func (b *book) feetFront(l load) int { return b.Front*l.weight - l.along }

func (b *book) bowBack(l load) int { return b.Back*b.depth(l) + b.Radius*l.along }

func (b *book) bowFront(l load) int { return b.Front*b.depth(l) - b.Radius*l.along }

// depth tells how far a load is below the middle of the circle of which the bow is a part: it is negative above.
func (b *book) depth(l load) int { return b.Radius*l.weight - l.high }

// top returns the top of the margin with a load: the lesser one of the tops of the two sides.
func (b *book) top(l load) int {
	var tops [2]int
	for n, s := range b.sides {
		tops[n] = s.top(b, l)
	}
	return least(tops[0], tops[1:]...)
}
