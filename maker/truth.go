package maker

import (
	"iter"
	"math/bits"
	"slices"
)

// work is what a maker did of a kind.
type work struct{ maker, kind int }

// truth is a maker, what repairs changed of its work, and the values that each kind can have with that. The value of a kind does not hang on those of other ones, so that one truth stands for all that differ by values alone.
type truth struct {
	maker   int
	changed []work
	values  sets
}

// changes reports whether repairs changed what a maker did of a kind.
func (t truth) changes(w work) bool { return slices.Contains(t.changed, w) }

// truths yields all truths with some makers.
func (b *book) truths(makers ...int) iter.Seq[truth] {
	return func(yield func(t truth) bool) {
	makers:
		for _, maker := range makers {
			for kind := range b.kinds() {
				if b.fixed().has(kind) && b.own[work{maker, kind}] == 0 {
					continue makers
				}
			}
			for changed := range set(1) << b.kinds() {
				if t, is := b.truth(maker, changed); is && !yield(t) {
					return
				}
			}
		}
	}
}

// truth returns the truth with a maker of whose work some kinds were changed, and whether there is one.
func (b *book) truth(maker int, changed set) (t truth, is bool) {
	if changed&b.fixed() != 0 || bits.OnesCount(uint(changed)) > b.Repairs {
		return truth{}, false
	}
	t = truth{maker: maker, values: b.seen}
	for kind := range b.kinds() {
		w := work{maker, kind}
		if changed.has(kind) {
			t.changed = append(t.changed, w)
		} else {
			t.values[kind] = b.own[w]
		}
	}
	return t, !t.values.lacksSome()
}

// The answers of Changed.
const (
	inNone = iota
	inSome
	inEach
)

// verdict is an answer of Changed, and what must be so of some work that is answered so.
type verdict struct {
	answer int
	isSo   func(b *book, w work) bool
}

// verdicts returns all verdicts, the one that says the most first: what was changed in each truth was in some, too.
func verdicts() []verdict {
	return []verdict{
		{inEach, (*book).mustBeChanged},
		{inSome, (*book).canBeChanged},
		{inNone, (*book).cannotBeChanged},
	}
}

// mustBeChanged reports whether some work was changed in each truth with its maker.
func (b *book) mustBeChanged(w work) bool {
	for t := range b.truths(w.maker) {
		if !t.changes(w) {
			return false
		}
	}
	return true
}

// canBeChanged reports whether some work was changed in some truth.
func (b *book) canBeChanged(w work) bool {
	for t := range b.truths(w.maker) {
		if t.changes(w) {
			return true
		}
	}
	return false
}

// cannotBeChanged reports whether some work was changed in no truth.
func (b *book) cannotBeChanged(w work) bool { return !b.canBeChanged(w) }
