package dapple

import (
	"iter"

	"skewbald/api"
)

// set is what is known of the size of a dapple.
type set int

// alone returns the set of one size.
func alone(size int) set { return 1 << size }

// isOpen reports whether a set has more sizes than one.
func (s set) isOpen() bool { return s&(s-1) != 0 }

// sizes yields all sizes of a set, increasing.
func (s set) sizes() iter.Seq[int] {
	return func(yield func(size int) bool) {
		for size := range api.DappleSizes {
			if s.canBe(alone(size)) && !yield(size) {
				return
			}
		}
	}
}

// stands reports that a set can stand beside another one, whichever it is.
func (s set) stands(set) bool { return true }

// canBe reports whether the sizes of two dapples can be the same.
func (s set) canBe(other set) bool { return s&other != 0 }

// surelyIs reports whether the sizes of two dapples surely are the same.
func (s set) surelyIs(other set) bool { return s == other && !s.isOpen() }

// Horses never, perhaps or surely are the same.
const (
	never = iota
	perhaps
	surely
)

// likeness is how much the same two horses are if, in some turn, all sets of the one are so to those of the other.
type likeness struct {
	same int
	sets func(s, other set) bool
}

// likenesses returns all of them, the least one first. Two horses that are the same in each truth, whatever the turns, surely are so in one turn, since all their sizes are known: if one were not, then with another size there the row would have other dapples, and could no longer be the same in any turn.
func likenesses() []likeness {
	return []likeness{
		{never, set.stands},
		{perhaps, set.canBe},
		{surely, set.surelyIs},
	}
}

// row is what is known of the row of a horse. Behind the places of the book there is nothing.
type row [api.DappleRound]set

// known returns a row of which all sizes are known.
func known(sizes []int) (all row) {
	for place, size := range sizes {
		all[place] = alone(size)
	}
	return all
}

// view is a horse whose row is read from the place on that is so many places on. It also stands for the dapple in this place.
type view struct{ horse, turn int }

// straight returns a horse whose row is read as it is.
func straight(horse int) view { return view{horse: horse} }
