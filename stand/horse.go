package stand

import (
	"iter"

	"skewbald/api"
)

// The answers of Tips.
const (
	never = iota
	perhaps
	surely
)

// horse is a book that can be true.
type horse struct {
	*book
	// loads has the load of all parts in each truth.
	loads []load
	// tipping tells in how many truths the horse tips with a child, as far as this was asked: a child that cannot lean is asked for as one that leans back, and to the front.
	tipping map[child]int
}

func newHorse(b *book) *horse {
	h := &horse{book: b, tipping: map[child]int{}}
	for w := range b.truths() {
		h.loads = append(h.loads, b.load(w))
	}
	return h
}

// withLead returns the horse with lead along it.
func (h *horse) withLead(lead, along int) *horse {
	heavier := &horse{book: h.book, tipping: map[child]int{}}
	for _, l := range h.loads {
		heavier.loads = append(heavier.loads, l.with(lead, along, 0))
	}
	return heavier
}

// wider returns the horse with its feet, or the ends of its bow, farther from the middle. Its truths are those of this one.
func (h *horse) wider(more int) *horse {
	b := newBook(h.StandBook)
	b.Front += more
	b.Back += more
	return &horse{book: b, loads: h.loads, tipping: map[child]int{}}
}

// count returns in how many truths the horse tips with a child.
func (h *horse) count(c child) int {
	count, known := h.tipping[c]
	if known {
		return count
	}
	for _, l := range h.loads {
		if h.tips(l, c) {
			count++
		}
	}
	h.tipping[c] = count
	return count
}

// canTip reports whether the horse tips with a child in some truth.
func (h *horse) canTip(c child) bool { return h.count(c) > 0 }

// answer returns in which truths the horse tips with a child.
func (h *horse) answer(c child) int {
	switch h.count(c) {
	case 0:
		return never
	case len(h.loads):
		return surely
	}
	return perhaps
}

// leastMargin returns the least margin with a child, of all truths.
func (h *horse) leastMargin(c child) api.StandRatio {
	lowest := chooser{before: lesser}
	for _, l := range h.loads {
		lowest.offer(h.margin(l, c))
	}
	return lowest.kept
}

// leaning yields a child of a weight with each lean, from the farthest back on.
func (h *horse) leaning(weight int) iter.Seq[child] {
	return func(yield func(child) bool) {
		for n := range 2*h.Lean + 1 {
			if !yield(child{weight, n - h.Lean}) {
				return
			}
		}
	}
}

// safe reports whether the horse cannot tip with a child of a weight, however it leans.
func (h *horse) safe(weight int) bool {
	for c := range h.leaning(weight) {
		if h.canTip(c) {
			return false
		}
	}
	return true
}

// ends returns the children of a weight that lean farthest back, and to the front.
func (h *horse) ends(weight int) (back, front child) {
	return child{weight, -h.Lean}, child{weight, h.Lean}
}

// safeForAll reports whether the horse is safe for all weights. The top of each side changes evenly with the weight of the child, and with its lean, so that it is least at the ends of both.
func (h *horse) safeForAll() bool {
	for _, weight := range []int{1, h.Limit} {
		back, front := h.ends(weight)
		if h.canTip(back) || h.canTip(front) {
			return false
		}
	}
	return true
}

// farthest returns the farthest lean on the way from one lean to another, with none of which the horse can tip.
func (h *horse) farthest(c, end child, step int) int {
	for c != end {
		next := child{c.weight, c.lean + step}
		if h.canTip(next) {
			break
		}
		c = next
	}
	return c.lean
}
