package harness

import (
	"slices"

	"skewbald/api"
	"skewbald/hair"
)

// claim is a horse, and a kind of which it needs pieces.
type claim struct{ horse, kind int }

// book is a valid book in the calculation, with the horses that have no hair, and with how many pieces all others need of each kind.
type book struct {
	api.HarnessBook
	bald  []int
	needs map[claim]int
}

// bookOf returns a valid book with what is known of its horses. (The Hair of a valid book has no error.)
func bookOf(b api.HarnessBook) *book {
	bald, _ := hair.Lacks(b.Hair)
	c := &book{b, bald, map[claim]int{}}
	for _, horse := range c.horses(c.hasHair) {
		for kind := range len(c.Stock) {
			c.needs[claim{horse, kind}] = c.Needs[horse][kind]
		}
	}
	return c
}

// hasHair reports whether there is hair for a horse.
func (b *book) hasHair(horse int) bool { return !slices.Contains(b.bald, horse) }

// horses returns all horses, increasing, of which something is so.
func (b *book) horses(so func(horse int) bool) []int {
	var list []int
	for horse := range b.Needs {
		if so(horse) {
			list = append(list, horse)
		}
	}
	return handedOn(list)
}

// byNumber returns the order of all horses by their numbers.
func (b *book) byNumber() []int {
	return b.horses(func(int) bool { return true })
}

// need returns how many pieces of a kind all horses that have hair need together.
func (b *book) need(kind int) int {
	var all []int
	for _, horse := range b.byNumber() {
		all = append(all, b.needs[claim{horse, kind}])
	}
	return sum(all...)
}

// counted returns the book in which just so many pieces of a kind are at hand.
func (b *book) counted(kind, many int) *book {
	c := *b
	c.Stock = slices.Clone(b.Stock)
	c.Stock[kind] = api.Span{Low: many, High: many}
	return &c
}

// sum returns the sum of several numbers.
func sum[N ~int](numbers ...N) (all N) {
	for _, n := range numbers {
		all += n
	}
	return all
}

// handedOn returns a list with no room behind it.
func handedOn[T any](list []T) []T {
	n := len(list)
	return list[:n:n]
}
