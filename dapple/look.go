package dapple

import (
	"iter"

	"skewbald/api"
)

// choice is a dapple that can be looked at, and how many pairs of horses can be the same once its size is known, at the worst.
type choice struct {
	view
	worst int
}

// judge tells which of two choices is the better one.
type judge struct {
	better func(one, other choice) bool
}

// best returns the first one of several choices that no other one is better than.
func (j judge) best(all iter.Seq[choice]) choice {
	best, _ := first(all)
	for c := range all {
		if j.better(c, best) {
			best = c
		}
	}
	return best
}

// look returns the best choice of a book in which some size is not known.
func (b *book) look() choice {
	j := judge{func(one, other choice) bool { return one.worst < other.worst }}
	return j.best(b.choices())
}

// choices yields all choices of a book: the first horse first, and of a horse the first place.
func (b *book) choices() iter.Seq[choice] {
	return func(yield func(c choice) bool) {
		for horse := range b.Horses {
			for place, s := range b.open(horse) {
				v := view{horse, place}
				if s != 0 && !yield(choice{v, b.worst(v)}) {
					return
				}
			}
		}
	}
}

// open returns those sets of a horse, each at its place, that have more sizes than one.
func (b *book) open(horse int) (all row) {
	for place, s := range b.rows[straight(horse)] {
		if s.isOpen() {
			all[place] = s
		}
	}
	return all
}

// isKnown reports whether each set has one size alone.
func (b *book) isKnown() bool {
	for horse := range b.Horses {
		if b.open(horse) != (row{}) {
			return false
		}
	}
	return true
}

// worst returns how many pairs of horses can be the same once the size of a dapple is known, at the worst.
func (b *book) worst(v view) int {
	most := 0
	for size := range b.rows[v][0].sizes() {
		most = greatest(most, b.knowing(v, size).clashes())
	}
	return most
}

// knowing returns the book in which the size of a dapple is known.
func (b *book) knowing(v view, size int) *book {
	c := api.DappleBook{Round: b.Round}
	for horse := range b.Horses {
		var sets []int
		for place := range b.Round {
			s := set(b.Horses[horse][place])
			if (view{horse, place}) == v {
				s = alone(size)
			}
			sets = append(sets, int(s))
		}
		c.Horses = append(c.Horses, sets)
	}
	return bookOf(c)
}
