package stand

import (
	"iter"
	"slices"

	"skewbald/api"
)

// child is what is known of a child on a horse.
type child struct{ weight, lean int }

// weights is what each part weighs. A part that is not weighed weighs nothing.
type weights [api.StandParts]int

// book is a valid book in the calculation.
type book struct {
	api.StandBook
	sides []side
}

func newBook(b api.StandBook) *book {
	c := &book{StandBook: b}
	for _, s := range sides() {
		if s.kind == b.Kind {
			c.sides = append(c.sides, s)
		}
	}
	return c
}

// canBeTrue reports whether the book has a truth: parts that weigh nothing are none.
func (b *book) canBeTrue() bool {
	return b.firstTruth() != weights{}
}

// firstTruth returns what the parts weigh in the first truth, or nothing if there is none.
func (b *book) firstTruth() weights {
	for w := range b.truths() {
		return w
	}
	return weights{}
}

// truths yields what the parts weigh in each truth in which all trials are right.
func (b *book) truths() iter.Seq[weights] {
	return func(yield func(weights) bool) {
		right := b.right
		var weigh func(w weights, part int) bool
		weigh = func(w weights, part int) bool {
			span := b.Parts[part].Weight
		weighing:
			for w[part] = span.Low; w[part] <= span.High; w[part]++ {
				if part+1 < len(b.Parts) {
					if !weigh(w, part+1) {
						return false
					}
					continue
				}
				for _, t := range b.Trials {
					if !right(w, t) {
						continue weighing
					}
				}
				if !yield(w) {
					return false
				}
			}
			return true
		}
		weigh(weights{}, 0)
	}
}

// right reports whether a trial is right if the parts weigh so much.
func (b *book) right(w weights, t api.StandTrial) bool {
	return b.tips(b.load(w), child{t.Weight, t.Lean}) == t.Tipped
}

// wrong returns the trials that are wrong if the parts weigh so much.
func (b *book) wrong(w weights) []int {
	var trials []int
	for n, t := range b.Trials {
		if !b.right(w, t) {
			trials = append(trials, n)
		}
	}
	many := len(trials)
	return trials[:many:many]
}

// fewestWrong returns the first one of the shortest lists of trials without which the book has a truth. It is enough to look at all trials that are wrong at the same weights: a list with fewer of them leaves a wrong one, a list with others is longer.
func (b *book) fewestWrong() []int {
	untried := newBook(b.StandBook)
	untried.Trials = nil
	var fewest []int
	found := false
	for w := range untried.truths() {
		if list := b.wrong(w); !found || comesBefore(list, fewest) {
			fewest, found = list, true
		}
	}
	return fewest
}

// comesBefore reports whether a list is shorter than another one, or the first one of two that are as long.
func comesBefore(list, other []int) bool {
	if len(list) != len(other) {
		return len(list) < len(other)
	}
	return slices.Compare(list, other) < 0
}

// load returns the load of all parts if they weigh so much.
func (b *book) load(w weights) load {
	var l load
	for n, p := range b.Parts {
		l = l.with(w[n], p.Along, p.High)
	}
	return l
}

// seated returns a load with a child on the horse.
func (b *book) seated(l load, c child) load {
	return l.with(c.weight, b.Along+c.lean, b.High)
}

// tips reports whether the horse tips with a child if its parts are such a load.
func (b *book) tips(l load, c child) bool {
	return b.top(b.seated(l, c)) < 0
}

// margin returns the margin with a child if the parts are such a load.
func (b *book) margin(l load, c child) api.StandRatio {
	all := b.seated(l, c)
	return reduced(b.top(all), all.weight)
}
