package harness

import "skewbald/api"

// The ends of a span.
const (
	least = iota
	most
)

// others tells the other one of both ends: the fewer pieces are at hand, the more lack.
var others = [2]int{least: most, most: least}

// both returns the span of a number of which both ends are told.
func both(tell func(end int) int) api.Span {
	return api.Span{Low: tell(least), High: tell(most)}
}

// scale is a book with as many pieces at hand as one end of what is known of them.
type scale struct {
	*book
	end func(s api.Span) int
}

// with returns the book with as many pieces at hand as an end tells.
func (b *book) with(end int) scale {
	ends := [2]func(s api.Span) int{
		least: func(s api.Span) int { return s.Low },
		most:  func(s api.Span) int { return s.High },
	}
	return scale{b, ends[end]}
}

// lacking returns by how many pieces the need of a kind is greater than what is at hand.
func (s scale) lacking(kind int) int {
	return max(0, s.need(kind)-s.end(s.Stock[kind]))
}

// good returns how many pieces of each pack surely are good.
func (b *book) good() int { return b.Pack - b.Bad }

// packs returns the fewest packs of a kind with which there surely are as many pieces as needed.
func (b *book) packs(kind int) int {
	return (b.with(least).lacking(kind) + b.good() - 1) / b.good()
}

// allPacks returns how many packs of each kind must be ordered.
func (b *book) allPacks() []int {
	var all []int
	for kind := range len(b.Stock) {
		all = append(all, b.packs(kind))
	}
	return handedOn(all)
}

// over returns how many pieces of a kind are left over, if so many of each pack are good.
func (s scale) over(kind, good int) int {
	return sum(s.end(s.Stock[kind]), good*s.packs(kind), -s.need(kind))
}

// leastOver returns how many pieces of a kind are left over, at least.
func (b *book) leastOver(kind int) int { return b.with(least).over(kind, b.good()) }

// mostOver returns how many pieces of a kind are left over, at most.
func (b *book) mostOver(kind int) int { return b.with(most).over(kind, b.Pack) }

// overs returns what tells for each end how many pieces of a kind are left over.
func overs() [2]func(b *book, kind int) int {
	return [2]func(b *book, kind int) int{least: (*book).leastOver, most: (*book).mostOver}
}
