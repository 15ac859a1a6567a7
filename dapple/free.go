package dapple

import (
	"iter"

	"skewbald/api"
)

// owners is a set of horses, each in a turn.
type owners uint64

// owner returns the set of a horse in a turn alone. All horses in all turns have room in a set: there are 48 of them at most.
func owner(v view) owners { return 1 << (v.horse*api.DappleRound + v.turn) }

// owning returns those that can have a size at a place, for all places and sizes.
func (b *book) owning() (all [api.DappleRound][api.DappleSizes]owners) {
	for v := range b.views() {
		for place, s := range b.rows[v] {
			for size := range s.sizes() {
				all[place][size] |= owner(v)
			}
		}
	}
	return all
}

// free yields all rows that no horse can have, in any turn, the first one first.
func (b *book) free() iter.Seq[[]int] {
	owning := b.owning()
	return func(yield func(sizes []int) bool) {
		var add func(sizes []int, left owners) bool
		add = func(sizes []int, left owners) bool {
			place := len(sizes)
			if place == b.Round {
				return left != 0 || yield(handedOn(sizes))
			}
			for size := range api.DappleSizes {
				if !add(with(sizes, size), left&owning[place][size]) {
					return false
				}
			}
			return true
		}
		add(nil, ^owners(0))
	}
}
