package mend

import (
	"iter"
	"math/bits"

	"skewbald/maker"
)

// set is a set of kinds.
type set int

// has reports whether a kind is in a set.
func (s set) has(kind int) bool { return s>>kind&1 == 1 }

// with returns the set that has a kind, too.
func (s set) with(kind int) set { return s | 1<<kind }

// many returns how many kinds are in a set.
func (s set) many() int { return bits.OnesCount(uint(s)) }

// those returns the set of all kinds below an end of which something is so.
func those(end int, so func(kind int) bool) (all set) {
	for kind := range end {
		if so(kind) {
			all = all.with(kind)
		}
	}
	return all
}

// truth is a maker, and what repairs changed of its work. Hours and parts do not hang on these, so that one truth stands for all that differ by them alone.
type truth struct {
	maker   int
	changed set
}

// changing returns the truth in which a kind was changed, too.
func (t truth) changing(kind int) truth { return truth{t.maker, t.changed.with(kind)} }

// work is what one of the makers who are possible did.
type work struct {
	*book
	maker int
}

// The answers of maker.Changed.
const (
	inNone = iota
	inSome
	inEach
)

// changed returns the answer of maker.Changed, which has no error here: the maker is possible.
func (w work) changed(kind int) int {
	answer, _ := maker.Changed(w.Maker, w.maker, kind)
	return answer
}

// canBeChanged reports whether repairs can have changed a kind.
func (w work) canBeChanged(kind int) bool { return w.changed(kind) != inNone }

// mustBeChanged reports whether repairs must have changed a kind.
func (w work) mustBeChanged(kind int) bool { return w.changed(kind) == inEach }

// truths yields all truths with the maker of some work.
func (w work) truths() iter.Seq[truth] {
	can, must := those(w.kinds(), w.canBeChanged), those(w.kinds(), w.mustBeChanged)
	return func(yield func(t truth) bool) {
		var change func(t truth, from int) bool
		change = func(t truth, from int) bool {
			if !yield(t) {
				return false
			}
		kinds:
			for kind := from; kind < w.kinds(); kind++ {
				more := t.changing(kind)
				switch {
				case !can.has(kind), more == t, more.changed.many() > w.Maker.Repairs:
					continue kinds
				case !change(more, kind+1):
					return false
				}
			}
			return true
		}
		change(truth{w.maker, must}, 0)
	}
}
