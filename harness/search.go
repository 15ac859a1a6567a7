package harness

import (
	"iter"
	"slices"
)

// atWorst returns how many horses perhaps, but not surely, are served once a kind is counted, at the worst.
func (b *book) atWorst(kind int) int {
	worst := 0
	for many := b.Stock[kind].Low; many <= b.Stock[kind].High; many++ {
		worst = max(worst, b.counted(kind, many).today().unsure())
	}
	return worst
}

// bestKind returns the first one of the kinds that it is best to count.
func (b *book) bestKind() int {
	best := 0
	for kind := range len(b.Stock) {
		if b.atWorst(kind) < b.atWorst(best) {
			best = kind
		}
	}
	return best
}

// orders yields all orders, the first one first.
func (b *book) orders() iter.Seq[[]int] {
	all := b.byNumber()
	return func(yield func(order []int) bool) {
		var come func(order []int) bool
		come = func(order []int) bool {
			if len(order) == len(all) {
				return yield(handedOn(order))
			}
			for _, horse := range all {
				if !slices.Contains(order, horse) && !come(append(handedOn(order), horse)) {
					return false
				}
			}
			return true
		}
		come(nil)
	}
}

// bestOrder returns the first order in which the most horses surely are served.
func (b *book) bestOrder() []int {
	best := b.byNumber()
	for order := range b.orders() {
		if len(b.day(order).sure) > len(b.day(best).sure) {
			best = order
		}
	}
	return best
}
