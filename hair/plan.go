package hair

import (
	"iter"
	"slices"

	"skewbald/api"
)

// ounces is how much hair there is of each hank. Beyond those of a valid book one can be bought.
type ounces [api.HairHanks + 1]int

// cut returns how much a plan cuts from each hank, as far as the plan goes.
func (b *book) cut(plan []int) (all ounces) {
	for n, hank := range plan {
		h := horse{b.Horses[n/parts]}
		all[hank] += wants()[n%parts].of(h)
	}
	return all
}

// allMatch reports whether the parts of all horses match that have a tail in a plan, as far as the plan goes.
func (b *book) allMatch(plan []int) bool {
	for horse := range len(plan) / parts {
		if _, found := b.dyes[pair{horse, plan[parts*horse], plan[parts*horse+1]}]; !found {
			return false
		}
	}
	return true
}

// scale is a book whose hanks weigh as much as one end of what is known of their weights.
type scale struct {
	*book
	end func(weight api.Span) int
}

// left returns how much is left of each hank by a plan, below 0 if too much is cut from it.
func (s scale) left(plan []int) ounces {
	all := s.cut(plan)
	for hank, h := range s.Hanks {
		all[hank] = s.end(h.Weight) - all[hank]
	}
	return all
}

// lacking returns how much is cut from each hank that it does not have.
func (s scale) lacking(plan []int) ounces {
	all := s.left(plan)
	for hank, n := range all {
		all[hank] = greatest(0, -n)
	}
	return all
}

// off returns how much is cut off by a plan.
func (s scale) off(plan []int) int {
	sum := 0
	for hank, n := range s.left(plan) {
		if slices.Contains(plan, hank) {
			sum += n
		}
	}
	return sum
}

// works reports whether a plan works, as far as it goes.
func (s scale) works(plan []int) bool {
	return s.lacking(plan) == ounces{} && s.allMatch(plan)
}

// plans yields all plans that work, the first one first.
func (s scale) plans() iter.Seq[[]int] {
	return func(yield func(plan []int) bool) {
		var cut func(plan []int) bool
		cut = func(plan []int) bool {
			if len(plan) == parts*len(s.Horses) {
				return yield(handedOn(plan))
			}
		hanks:
			for hank := range s.Hanks {
				longer := with(plan, hank)
				if !s.works(longer) {
					continue hanks
				}
				if !cut(longer) {
					return false
				}
			}
			return true
		}
		cut(nil)
	}
}

// serves reports whether some plan works.
func (s scale) serves() bool {
	for range s.plans() {
		return true
	}
	return false
}
