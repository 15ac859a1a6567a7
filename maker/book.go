package maker

import (
	"slices"

	"skewbald/api"
)

// book is a valid book in the calculation, with what was seen of each kind, and which of these values are a maker's own.
type book struct {
	api.MakerBook
	seen sets
	own  map[work]set
}

// bookOf returns a book with what was seen.
func bookOf(b api.MakerBook) *book {
	c := &book{b, allValues(), map[work]set{}}
	for _, m := range c.Seen {
		c.seen[m.Kind] &= set(m.Values)
	}
	for maker, marks := range c.Makers {
		for kind, values := range marks {
			c.own[work{maker, kind}] = set(values) & c.seen[kind]
		}
	}
	return c
}

// kinds returns how many kinds there are.
func (b *book) kinds() int { return kindsOf(b.MakerBook) }

// fixed returns the kinds that repairs cannot have changed.
func (b *book) fixed() set { return set(b.Fixed) }

// all returns all makers, increasing.
func (b *book) all() []int { return those(len(b.Makers), func(int) bool { return true }) }

// isPossible reports whether a maker is possible.
func (b *book) isPossible(maker int) bool {
	for range b.truths(maker) {
		return true
	}
	return false
}

// possible returns all makers that are possible, increasing. If marks contradict each other none is.
func (b *book) possible() []int { return those(len(b.Makers), b.isPossible) }

// isSomebodys reports whether some maker is possible. As long as no value is ruled out no maker is, either.
func (b *book) isSomebodys() bool {
	return b.seen == allValues() || len(b.possible()) > 0
}

// needs returns how many kinds of a maker's work must have been changed at least, and whether any changes are enough.
func (b *book) needs(maker int) (many int, found bool) {
	for many := range b.kinds() + 1 {
		if b.withRepairs(many).isPossible(maker) {
			return many, true
		}
	}
	return 0, false
}

// verdict returns the answer of Changed for the work of a maker who is possible. One of the verdicts always is so.
func (b *book) verdict(w work) int {
	all := verdicts()
	first := slices.IndexFunc(all, func(v verdict) bool { return v.isSo(b, w) })
	return all[first].answer
}

// values returns all values that a kind has in some truth, increasing.
func (b *book) values(kind int) []int {
	var all set
	for t := range b.truths(b.all()...) {
		all |= t.values[kind]
	}
	return those(api.MakerValues, all.has)
}

// areTold reports whether there are no values of all kinds with which both of two makers would be possible.
func (b *book) areTold(one, other int) bool {
	unseen := b.withSeen(nil)
	for t := range unseen.truths(one) {
		for u := range unseen.truths(other) {
			if !t.values.common(u.values).lacksSome() {
				return false
			}
		}
	}
	return true
}

// atWorst returns how many makers are possible at the worst once the value of a kind is known.
func (b *book) atWorst(kind int) int {
	var counts []int
	for _, value := range b.values(kind) {
		counts = append(counts, len(b.knowing(kind, value).possible()))
	}
	return greatest(0, counts...)
}

// leavesFewer reports whether at the worst fewer makers are possible once the value of a kind is known than once that of another one is.
func (b *book) leavesFewer(kind, other int) bool { return b.atWorst(kind) < b.atWorst(other) }

// search looks for the best kind.
type search struct {
	*book
	better func(kind, other int) bool
}

// first returns the first one of the best kinds.
func (s search) first() int {
	best := 0
	for kind := range s.kinds() {
		if s.better(kind, best) {
			best = kind
		}
	}
	return best
}

// wrong returns the first one of the shortest lists of marks without which some maker is possible. There is one: without any marks all makers are.
func (b *book) wrong() []int {
	for many := range len(b.Seen) + 1 {
		if list, found := b.leftOut(many); found {
			return list
		}
	}
	return nil
}

// leftOut returns the first list of so many marks without which some maker is possible, and whether there is one.
func (b *book) leftOut(many int) (list []int, found bool) {
	var leave func(out []int, from int) bool
	leave = func(out []int, from int) bool {
		if len(out) == many {
			found = b.without(out).isSomebodys()
			if found {
				list = handedOn(out)
			}
			return found
		}
		for mark := from; mark < len(b.Seen); mark++ {
			if leave(with(out, mark), mark+1) {
				return true
			}
		}
		return false
	}
	leave(nil, 0)
	return list, found
}

// without returns the book without some marks.
func (b *book) without(out []int) *book {
	var seen []api.MakerMark
	for mark, m := range b.Seen {
		if !slices.Contains(out, mark) {
			seen = append(seen, m)
		}
	}
	return b.withSeen(seen)
}

// knowing returns the book in which the value of a kind is known.
func (b *book) knowing(kind, value int) *book {
	n := len(b.Seen)
	return b.withSeen(append(b.Seen[:n:n], api.MakerMark{Kind: kind, Values: 1 << value}))
}

// withSeen returns the book with other marks, which can be more than a valid one has.
func (b *book) withSeen(seen []api.MakerMark) *book {
	c := b.MakerBook
	c.Seen = seen
	return bookOf(c)
}

// withRepairs returns the book with another number of kinds that repairs can have changed.
func (b *book) withRepairs(many int) *book {
	c := *b
	c.Repairs = many
	return &c
}
