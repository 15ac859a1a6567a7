package bench

import (
	"maps"

	"skewbald/api"
	"skewbald/plank"
)

// book is a book in the calculation, with the parts that are cut, increasing, and which one of them is cut before which one.
type book struct {
	api.BenchBook
	cut    []int
	before map[api.BenchPair]bool
}

// bookOf returns a book with some parts as those that are cut.
func bookOf(b api.BenchBook, cut []int) *book {
	c := &book{b, cut, map[api.BenchPair]bool{}}
	for _, p := range b.After {
		c.before[p] = true
	}
	return c
}

// knownBook returns a valid book with the parts that truly are cut. (The planks of a valid book have no error.)
func knownBook(b api.BenchBook) *book {
	cut, _ := plank.Most(b.Plank)
	return bookOf(b, cut)
}

// behind returns the balance once some legs are cut.
func (b *book) behind(legs []int) balance {
	does := deeds()
	var m balance
	for _, part := range legs {
		leg := b.Legs[part]
		m = does[sideOf(leg)](m, leg.Bench)
	}
	return m
}

// firstBreak returns the first place at which an order breaks, and whether there is one.
func (b *book) firstBreak(order []int) (place int, breaks bool) {
	for place := range len(order) {
		if b.behind(order[:place+1]).beyond(b.Slack) != (balance{}) {
			return place, true
		}
	}
	return 0, false
}

// breaks reports whether an order breaks.
func (b *book) breaks(order []int) bool {
	_, breaks := b.firstBreak(order)
	return breaks
}

// keepsEven reports whether an order keeps even.
func (b *book) keepsEven(order []int) bool { return !b.breaks(order) }

// neverBreaks reports whether no order breaks.
func (b *book) neverBreaks() bool {
	_, breaks := search{b, b.breaks}.first()
	return !breaks
}

// canKeepEven reports whether some order keeps even.
func (b *book) canKeepEven() bool {
	_, keeps := search{b, b.keepsEven}.first()
	return keeps
}

// leastSlack returns the least slack with which a book is as it is wished to be. Legs never differ by more than there are, so that there is one.
func (b *book) leastSlack(asWished func(b *book) bool) int {
	slack := 0
	for !asWished(b.withSlack(slack)) {
		slack++
	}
	return slack
}

// withSlack returns the book with another slack.
func (b *book) withSlack(slack int) *book {
	c := *b
	c.Slack = slack
	return &c
}

// tie returns the first pair that helps, and whether there is one.
func (b *book) tie() (api.BenchPair, bool) {
	if b.neverBreaks() {
		return api.BenchPair{}, false
	}
	for _, first := range b.cut {
		for _, then := range b.cut {
			if p := (api.BenchPair{First: first, Then: then}); !ofOnePart(p) && b.tied(p).onlyKeepsEven() {
				return p, true
			}
		}
	}
	return api.BenchPair{}, false
}

// onlyKeepsEven reports whether there is an order, and none breaks.
func (b *book) onlyKeepsEven() bool { return b.canKeepEven() && b.neverBreaks() }

// tied returns the book with one pair more, even if it has as many as a book can have.
func (b *book) tied(p api.BenchPair) *book {
	c := *b
	c.before = maps.Clone(b.before)
	c.before[p] = true
	return &c
}
