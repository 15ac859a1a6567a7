package hair

import (
	"iter"
	"slices"

	"skewbald/api"
)

// book is a valid book in the calculation, which can have one hank more, with what is known of the shade of dyed hair, and by which steps parts surely match (if they do by some).
type book struct {
	api.HairBook
	shades map[dyed]api.Span
	dyes   map[pair]steps
}

// bookOf returns a book with what is known by it.
func bookOf(b api.HairBook) *book {
	c := &book{b, shadesOf(b), map[pair]steps{}}
	for horse := range c.Horses {
		for mane := range c.Hanks {
			for tail := range c.Hanks {
				p := pair{horse, mane, tail}
				if s, found := firstSteps(c.Dark, fitting{c, p}.match); found {
					c.dyes[p] = s
				}
			}
		}
	}
	return c
}

// atLeast returns the book with as much hair as there is at least.
func (b *book) atLeast() scale {
	return scale{b, func(weight api.Span) int { return weight.Low }}
}

// atMost returns the book with as much hair as there is at most.
func (b *book) atMost() scale {
	return scale{b, func(weight api.Span) int { return weight.High }}
}

// leastBy returns the first one of the plans that surely work of which a number is the least, this number, and whether there is one.
func (b *book) leastBy(number func(plan []int) int) (best []int, least int, found bool) {
	for plan := range b.atLeast().plans() {
		if n := number(plan); !found || n < least {
			best, least, found = plan, n, true
		}
	}
	return best, least, found
}

// lacks returns the first one of the shortest lists of horses without which all others are surely served. There is one: without all horses nobody is left.
func (b *book) lacks() []int {
	for many := range len(b.Horses) + 1 {
		for out := range lists(len(b.Horses), many) {
			if b.without(out).atLeast().serves() {
				return out
			}
		}
	}
	return nil
}

// without returns the book without some horses.
func (b *book) without(out []int) *book {
	c := b.HairBook
	c.Horses = nil
	for horse, h := range b.Horses {
		if !slices.Contains(out, horse) {
			c.Horses = append(c.Horses, h)
		}
	}
	return bookOf(c)
}

// buys returns the least that is cut from a hank more of a shade, and whether it is enough.
func (b *book) buys(shade int) (least int, found bool) {
	bought := len(b.Hanks)
	c := b.HairBook
	c.Hanks = append(b.Hanks[:bought:bought], api.HairHank{Weight: just(api.HairOunces), Shade: just(shade)})
	more := bookOf(c)
	_, least, found = more.leastBy(func(plan []int) int { return more.cut(plan)[bought] })
	return least, found
}

// isPerhapsServed reports whether in some truth some plan works.
func (b *book) isPerhapsServed() bool {
	for t := range b.truths() {
		if t.atMost().serves() {
			return true
		}
	}
	return false
}

// truths yields the book with each choice of the shades. It leaves weights as they are: a plan that works in a truth also does if hanks weigh more.
func (b *book) truths() iter.Seq[*book] {
	return func(yield func(t *book) bool) {
		var know func(hanks []api.HairHank) bool
		know = func(hanks []api.HairHank) bool {
			n := len(hanks)
			if n == len(b.Hanks) {
				c := b.HairBook
				c.Hanks = hanks
				return yield(bookOf(c))
			}
			h := b.Hanks[n]
			for shade := h.Shade.Low; shade <= h.Shade.High; shade++ {
				if !know(with(hanks, api.HairHank{Weight: h.Weight, Shade: just(shade)})) {
					return false
				}
			}
			return true
		}
		know(nil)
	}
}
