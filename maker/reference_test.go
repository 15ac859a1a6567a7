package maker_test

// The reference goes through all truths one by one, values and changed kinds and all, straight from the definitions, and so finds what package maker must return.

import (
	"iter"
	"math/bits"
	"math/rand/v2"
	"slices"

	"skewbald/api"
)

// has reports whether n is in a set.
func has(set, n int) bool { return set>>n&1 == 1 }

// vector is a value for each kind.
type vector [api.MakerKinds]int

// truth is a maker, a value for each kind, and a set of kinds that repairs changed.
type truth struct {
	maker   int
	values  vector
	changed int
}

// kinds returns how many kinds a book has.
func kinds(b api.MakerBook) int { return len(b.Makers[0]) }

// fits reports whether a value is in each mark of a kind.
func fits(b api.MakerBook, kind, value int) bool {
	for _, m := range b.Seen {
		if m.Kind == kind && !has(m.Values, value) {
			return false
		}
	}
	return true
}

// vectors yields each way to choose a value for each kind out of what was seen of it.
func vectors(b api.MakerBook) iter.Seq[vector] {
	return func(yield func(v vector) bool) {
		var choose func(v vector, kind int) bool
		choose = func(v vector, kind int) bool {
			if kind == kinds(b) {
				return yield(v)
			}
			for v[kind] = range api.MakerValues {
				if fits(b, kind, v[kind]) && !choose(v, kind+1) {
					return false
				}
			}
			return true
		}
		choose(vector{}, 0)
	}
}

// isTruth reports whether a truth is one of a book whose values were seen.
func isTruth(b api.MakerBook, t truth) bool {
	if t.changed&b.Fixed != 0 || bits.OnesCount(uint(t.changed)) > b.Repairs {
		return false
	}
	for kind := range kinds(b) {
		if !has(t.changed, kind) && !has(b.Makers[t.maker][kind], t.values[kind]) {
			return false
		}
	}
	return true
}

// truths yields all truths of a book.
func truths(b api.MakerBook) iter.Seq[truth] {
	return func(yield func(t truth) bool) {
		for v := range vectors(b) {
			for maker := range b.Makers {
				for changed := range 1 << kinds(b) {
					if t := (truth{maker, v, changed}); isTruth(b, t) && !yield(t) {
						return
					}
				}
			}
		}
	}
}

// knowledge is what all truths of a book tell.
type knowledge struct {
	// truths counts those with each maker, and changes those in which each kind was changed.
	truths  [api.MakerMany]int
	changes [api.MakerMany][api.MakerKinds]int
	// makers is the set of those with whom each kind can have each value.
	makers [api.MakerKinds][api.MakerValues]int
}

func know(b api.MakerBook) knowledge {
	var k knowledge
	for t := range truths(b) {
		k.truths[t.maker]++
		for kind := range kinds(b) {
			if has(t.changed, kind) {
				k.changes[t.maker][kind]++
			}
			k.makers[kind][t.values[kind]] |= 1 << t.maker
		}
	}
	return k
}

// right reports whether a value is left of each kind.
func right(b api.MakerBook) bool {
	for range vectors(b) {
		return true
	}
	return false
}

// none stands for a number that there is not.
const none = -1

// who, changed, values and look are the references of the functions of these names.
func (k knowledge) who() []int {
	var list []int
	for maker, n := range k.truths {
		if n > 0 {
			list = append(list, maker)
		}
	}
	return list
}

func (k knowledge) changed(maker, kind int) int {
	switch k.changes[maker][kind] {
	case 0:
		return 0
	case k.truths[maker]:
		return 2
	}
	return 1
}

func (k knowledge) values(kind int) []int {
	var list []int
	for value, makers := range k.makers[kind] {
		if makers != 0 {
			list = append(list, value)
		}
	}
	return list
}

// left returns how many makers are possible at the most, once the value of a kind is known.
func (k knowledge) left(kind int) int {
	most := 0
	for _, makers := range k.makers[kind] {
		most = max(most, bits.OnesCount(uint(makers)))
	}
	return most
}

func (k knowledge) look(b api.MakerBook) int {
	if len(k.who()) < 2 {
		return none
	}
	var lefts []int
	for kind := range kinds(b) {
		lefts = append(lefts, k.left(kind))
	}
	return slices.Index(lefts, slices.Min(lefts))
}

// needs returns how many kinds are changed in the truth with a maker in which the fewest are, if repairs can have changed all that are not fixed, or none.
func needs(b api.MakerBook, maker int) int {
	b.Repairs = kinds(b)
	fewest := none
	for t := range truths(b) {
		if n := bits.OnesCount(uint(t.changed)); t.maker == maker && (fewest == none || n < fewest) {
			fewest = n
		}
	}
	return fewest
}

// exactly returns the book in which just these values were seen.
func exactly(b api.MakerBook, v vector) api.MakerBook {
	return changed(b, func(b *api.MakerBook) {
		b.Seen = nil
		for kind := range kinds(*b) {
			b.Seen = append(b.Seen, saw(kind, v[kind]))
		}
	})
}

// both returns values of all kinds with which two makers are possible, and whether there are some.
func both(b api.MakerBook, one, other int) (vector, bool) {
	b.Seen = nil
	for v := range vectors(b) {
		makers := 0
		for t := range truths(exactly(b, v)) {
			makers |= 1 << t.maker
		}
		if has(makers, one) && has(makers, other) {
			return v, true
		}
	}
	return vector{}, false
}

// isSomebodys reports whether a book has a truth.
func isSomebodys(b api.MakerBook) bool {
	for range truths(b) {
		return true
	}
	return false
}

// without returns a book without some marks.
func without(b api.MakerBook, out []int) api.MakerBook {
	var seen []api.MakerMark
	for mark, m := range b.Seen {
		if !slices.Contains(out, mark) {
			seen = append(seen, m)
		}
	}
	b.Seen = seen
	return b
}

// sublists returns all strictly increasing lists of the numbers below n, the shorter ones first, and of those that are as long the first one.
func sublists(n int) [][]int {
	var all [][]int
	for set := range 1 << n {
		var list []int
		for i := range n {
			if has(set, i) {
				list = append(list, i)
			}
		}
		all = append(all, list)
	}
	slices.SortFunc(all, func(l, m []int) int {
		if len(l) != len(m) {
			return len(l) - len(m)
		}
		return slices.Compare(l, m)
	})
	return all
}

// wrong returns the fewest marks without which a book has a truth.
func wrong(b api.MakerBook) []int {
	for _, list := range sublists(len(b.Seen)) {
		if isSomebodys(without(b, list)) {
			return list
		}
	}
	return nil
}

// clone returns a copy of a book that shares no memory with it.
func clone(b api.MakerBook) api.MakerBook {
	b.Makers, b.Seen = slices.Clone(b.Makers), slices.Clone(b.Seen)
	for i := range b.Makers {
		b.Makers[i] = slices.Clone(b.Makers[i])
	}
	return b
}

// books returns valid books of 1 to 3 kinds, always the same ones: a horse of one of the makers that is rightly seen, one that may be nobody's, and marks that may contradict each other.
func books(seed uint64, many int) []api.MakerBook {
	r := rand.New(rand.NewPCG(seed, 5))
	var all []api.MakerBook
	for n := range many {
		b := anyBook(r, 1+r.IntN(api.MakerMany), 1+r.IntN(3))
		marks := r.IntN(api.MakerSeen + 1)
		switch n % 3 {
		case 0:
			b.Seen = rightMarks(r, kinds(b), anyTruth(r, b).values, marks)
		case 1:
			b.Seen = rightMarks(r, kinds(b), anyVector(r), marks)
		case 2:
			b.Seen = anyMarks(r, kinds(b), marks)
		}
		all = append(all, b)
	}
	return all
}

// wideBooks returns valid books of the most kinds and makers, what was seen in which is rightly seen.
func wideBooks(seed uint64, many int) []api.MakerBook {
	r := rand.New(rand.NewPCG(seed, 6))
	var all []api.MakerBook
	for range many {
		b := anyBook(r, api.MakerMany, api.MakerKinds-r.IntN(2))
		b.Seen = rightMarks(r, kinds(b), anyTruth(r, b).values, r.IntN(api.MakerSeen+1))
		all = append(all, b)
	}
	return all
}

// anyBook returns a book without marks.
func anyBook(r *rand.Rand, makers, kinds int) api.MakerBook {
	b := api.MakerBook{Repairs: r.IntN(kinds + 1)}
	if r.IntN(2) == 0 {
		b.Repairs /= 2
	}
	for range makers {
		var marks []int
		for range kinds {
			marks = append(marks, fewValues(r))
		}
		b.Makers = append(b.Makers, marks)
	}
	// A maker whose horses are the same as another one's.
	if r.IntN(5) == 0 {
		b.Makers[r.IntN(makers)] = slices.Clone(b.Makers[r.IntN(makers)])
	}
	if r.IntN(2) == 0 {
		b.Fixed = r.IntN(1 << kinds)
	}
	return b
}

// fewValues returns a set of mostly one to three values.
func fewValues(r *rand.Rand) int {
	if r.IntN(9) == 0 {
		return 1 + r.IntN(31)
	}
	return 1<<r.IntN(5) | 1<<r.IntN(5)&r.IntN(32) | 1<<r.IntN(5)&r.IntN(32)
}

// anyMarks returns so many marks, rightly seen or not.
func anyMarks(r *rand.Rand, kinds, many int) []api.MakerMark {
	var all []api.MakerMark
	for range many {
		all = append(all, api.MakerMark{Kind: r.IntN(kinds), Values: fewValues(r)})
	}
	return all
}

// rightMarks returns so many marks that are rightly seen if the kinds truly have some values.
func rightMarks(r *rand.Rand, kinds int, v vector, many int) []api.MakerMark {
	all := anyMarks(r, kinds, many)
	for i, m := range all {
		all[i].Values |= 1 << v[m.Kind]
	}
	return all
}

// anyVector returns any values.
func anyVector(r *rand.Rand) vector {
	var v vector
	for kind := range v {
		v[kind] = r.IntN(api.MakerValues)
	}
	return v
}

// anyTruth returns one truth of a book without marks.
func anyTruth(r *rand.Rand, b api.MakerBook) truth {
	t := truth{maker: r.IntN(len(b.Makers))}
	for _, kind := range r.Perm(kinds(b))[:r.IntN(b.Repairs+1)] {
		t.changed |= 1 << kind
	}
	t.changed &^= b.Fixed
	for kind := range kinds(b) {
		t.values[kind] = r.IntN(api.MakerValues)
		for !has(t.changed, kind) && !has(b.Makers[t.maker][kind], t.values[kind]) {
			t.values[kind] = r.IntN(api.MakerValues)
		}
	}
	return t
}
