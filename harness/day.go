package harness

import (
	"iter"

	"skewbald/api"
)

// pieces is a number of pieces of each kind. Of a kind that a book does not have there are none.
type pieces [api.HarnessKinds]int

// less returns what is left of some pieces when others are taken.
func (p pieces) less(taken pieces) pieces {
	for kind, n := range taken {
		p[kind] -= n
	}
	return p
}

// lackingTo returns how many pieces lack to those that are wanted.
func (p pieces) lackingTo(wanted pieces) pieces {
	for kind, n := range wanted.less(p) {
		wanted[kind] = max(0, n)
	}
	return wanted
}

// wanted returns how many pieces a horse that has hair needs.
func (b *book) wanted(horse int) (all pieces) {
	for kind := range len(b.Stock) {
		all[kind] = b.needs[claim{horse, kind}]
	}
	return all
}

// truths yields in each truth how many pieces are at hand.
func (b *book) truths() iter.Seq[pieces] {
	return func(yield func(atHand pieces) bool) {
		var know func(atHand pieces, kind int) bool
		know = func(atHand pieces, kind int) bool {
			if kind == len(b.Stock) {
				return yield(atHand)
			}
			for n := b.Stock[kind].Low; n <= b.Stock[kind].High; n++ {
				atHand[kind] = n
				if !know(atHand, kind+1) {
					return false
				}
			}
			return true
		}
		know(pieces{}, 0)
	}
}

// served returns all horses that are served if they come in an order, and some pieces are at hand.
func (b *book) served(order []int, atHand pieces) []int {
	var list []int
horses:
	for _, horse := range order {
		if !b.hasHair(horse) {
			continue horses
		}
		wanted := b.wanted(horse)
		if atHand.lackingTo(wanted) == (pieces{}) {
			atHand = atHand.less(wanted)
			list = append(list, horse)
		}
	}
	return handedOn(list)
}

// day is what is known of a day: who surely is served, and who perhaps, and how many are.
type day struct {
	sure, perhaps []int
	many          api.Span
}

// day returns what is known of a day on which horses come in an order.
func (b *book) day(order []int) day {
	truths, times := 0, map[int]int{}
	d := day{many: api.Span{Low: len(order)}}
	for atHand := range b.truths() {
		served := b.served(order, atHand)
		for _, horse := range served {
			times[horse]++
		}
		truths++
		d.many = api.Span{Low: min(d.many.Low, len(served)), High: max(d.many.High, len(served))}
	}
	d.sure = b.horses(func(horse int) bool { return times[horse] == truths })
	d.perhaps = b.horses(func(horse int) bool { return times[horse] > 0 })
	return d
}

// today returns what is known of a day on which horses come by their numbers.
func (b *book) today() day { return b.day(b.byNumber()) }

// unsure returns how many horses perhaps, but not surely, are served.
func (d day) unsure() int { return len(d.perhaps) - len(d.sure) }
