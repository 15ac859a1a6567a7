package dapple

import (
	"iter"

	"skewbald/api"
)

// book is a valid book in the calculation, with the row of each horse in each turn.
type book struct {
	api.DappleBook
	rows map[view]row
}

// bookOf returns a book with all rows.
func bookOf(b api.DappleBook) *book {
	c := &book{b, map[view]row{}}
	for v := range c.views() {
		c.rows[v] = c.read(v)
	}
	return c
}

// views yields each horse in each turn: the first horse first, and of a horse the first turn.
func (b *book) views() iter.Seq[view] {
	return func(yield func(v view) bool) {
		for horse := range b.Horses {
			for turn := range b.Round {
				if !yield(view{horse, turn}) {
					return
				}
			}
		}
	}
}

// read returns the row of a horse in a turn.
func (b *book) read(v view) (all row) {
	for place := range b.Round {
		all[place] = set(b.Horses[v.horse][(place+v.turn)%b.Round])
	}
	return all
}

// turns yields all turns in which the row of a horse is so much the same as another row.
func (b *book) turns(horse int, other row, same int) iter.Seq[int] {
	are := likenesses()[same].sets
	return func(yield func(turn int) bool) {
	turns:
		for turn := range b.Round {
			turned := b.rows[view{horse, turn}]
			for place := range b.Round {
				if !are(turned[place], other[place]) {
					continue turns
				}
			}
			if !yield(turn) {
				return
			}
		}
	}
}

// same returns how much two horses are the same.
func (b *book) same(one, other int) int {
	most := never
	for _, l := range likenesses() {
		for range b.turns(one, b.rows[straight(other)], l.same) {
			most = greatest(most, l.same)
		}
	}
	return most
}

// canBeSame reports whether two horses are the same in some truth.
func (b *book) canBeSame(one, other int) bool { return b.same(one, other) != never }

// areSurelySame reports whether two horses are the same in each truth.
func (b *book) areSurelySame(one, other int) bool { return b.same(one, other) == surely }

// whose returns all horses, increasing, that can have a row.
func (b *book) whose(r row) []int {
	var all []int
	for horse := range b.Horses {
		if _, found := first(b.turns(horse, r, perhaps)); found {
			all = append(all, horse)
		}
	}
	return handedOn(all)
}
