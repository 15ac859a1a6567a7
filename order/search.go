package order

import (
	"cmp"
	"iter"
	"slices"

	"skewbald/api"
)

// lists yields all lists of the parts that are cut, each part once, the first one first.
func (b *book) lists() iter.Seq[[]int] {
	return func(yield func(list []int) bool) {
		var cutNext func(list, uncut []int) bool
		cutNext = func(list, uncut []int) bool {
			if len(uncut) == 0 {
				return yield(handedOn(list))
			}
			for i, leg := range uncut {
				if !cutNext(append(handedOn(list), leg), slices.Delete(slices.Clone(uncut), i, i+1)) {
					return false
				}
			}
			return true
		}
		cutNext(nil, b.cut)
	}
}

// orders yields all orders, the first one first.
func (b *book) orders() iter.Seq[[]int] {
	return func(yield func(order []int) bool) {
	lists:
		for list := range b.lists() {
			switch {
			case !isOrder(b.Bench, list):
				continue lists
			case !yield(list):
				return
			}
		}
	}
}

// promise is an order, and all horses, increasing, that surely are done in time by it.
type promise struct{ order, horses []int }

// promise returns the promise of an order.
func (b *book) promise(order []int) promise {
	return promise{order, b.day(order).served()}
}

// serves reports whether all of some horses surely are done in time.
func (p promise) serves(horses ...int) bool {
	for _, horse := range horses {
		if !slices.Contains(p.horses, horse) {
			return false
		}
	}
	return true
}

// servesMore reports whether more horses surely are done in time by a promise than by another one.
func servesMore(p, other promise) bool { return len(p.horses) > len(other.horses) }

// leftOut returns all horses, increasing, that a promise does not serve.
func (b *book) leftOut(p promise) []int {
	return b.horses(func(horse int) bool { return !p.serves(horse) })
}

// leavesOutLess reports whether a promise leaves out fewer horses than another one, or as many, and these come first.
func (b *book) leavesOutLess(p, other promise) bool {
	out, others := b.leftOut(p), b.leftOut(other)
	return cmp.Or(cmp.Compare(len(out), len(others)), slices.Compare(out, others)) < 0
}

// never returns all horses, increasing, that no promise serves.
func (b *book) never() []int {
	isServed := map[int]bool{}
	for order := range b.orders() {
		for _, horse := range b.promise(order).horses {
			isServed[horse] = true
		}
	}
	return b.horses(func(horse int) bool { return !isServed[horse] })
}

// search looks for the best promise of a book.
type search struct {
	*book
	isBetter func(p, other promise) bool
}

// best returns the first one of the best promises that serve all of some horses, and whether there is one.
func (s search) best(horses ...int) (best promise, found bool) {
	for order := range s.orders() {
		p := s.promise(order)
		if p.serves(horses...) && (!found || s.isBetter(p, best)) {
			best, found = p, true
		}
	}
	return best, found
}

// told returns the order of the best promise that serves all of some horses; ErrNone if there is none.
func (s search) told(horses ...int) ([]int, api.Errno) {
	p, found := s.best(horses...)
	if !found {
		return nil, api.ErrNone
	}
	return p.order, api.OK
}

// handedOn returns a list with no room behind it.
func handedOn(list []int) []int {
	n := len(list)
	return list[:n:n]
}
