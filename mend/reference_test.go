package mend_test

// The reference goes through all truths one by one, hours and parts and all, straight from the definitions, and so finds what package mend must return.

import (
	"iter"
	"math/bits"
	"math/rand/v2"
	"slices"

	"skewbald/api"
)

// has reports whether n is in a set.
func has(set, n int) bool { return set>>n&1 == 1 }

// kinds returns how many kinds a book has.
func kinds(b api.MendBook) int { return len(b.Maker.Makers[0]) }

// truth is a maker, a set of changed kinds, and how many hours each job takes, and what its parts cost.
type truth struct {
	maker, changed int
	hours, parts   [api.MendJobs]int
}

// fits reports whether a kind can have a value: whether each mark of this kind can.
func fits(b api.MakerBook, kind, value int) bool {
	for _, m := range b.Seen {
		if m.Kind == kind && !has(m.Values, value) {
			return false
		}
	}
	return true
}

// isHistory reports whether a maker and a set of changed kinds belong to one truth of a book of makers. The value of a kind does not hang on those of others.
func isHistory(b api.MakerBook, maker, changed int) bool {
	if changed&b.Fixed != 0 || bits.OnesCount(uint(changed)) > b.Repairs {
		return false
	}
	for kind, own := range b.Makers[maker] {
		found := false
		for value := range api.MakerValues {
			found = found || fits(b, kind, value) && (has(changed, kind) || has(own, value))
		}
		if !found {
			return false
		}
	}
	return true
}

// histories returns each maker and each set of changed kinds that belong to one truth of a book of makers.
func histories(b api.MakerBook) []truth {
	var all []truth
	for maker := range b.Makers {
		for changed := range 1 << len(b.Makers[0]) {
			if isHistory(b, maker, changed) {
				all = append(all, truth{maker: maker, changed: changed})
			}
		}
	}
	return all
}

// truths yields all truths of a book.
func truths(b api.MendBook) iter.Seq[truth] {
	return func(yield func(t truth) bool) {
		var choose func(t truth, n int) bool
		choose = func(t truth, n int) bool {
			if n == len(b.Jobs) {
				return yield(t)
			}
			j := b.Jobs[n]
			for t.hours[n] = j.Hours.Low; t.hours[n] <= j.Hours.High; t.hours[n]++ {
				for t.parts[n] = j.Parts.Low; t.parts[n] <= j.Parts.High; t.parts[n]++ {
					if !choose(t, n+1) {
						return false
					}
				}
			}
			return true
		}
		for _, t := range histories(b.Maker) {
			if !choose(t, 0) {
				return
			}
		}
	}
}

// cost, paid and lost return what a job costs in a truth, what of it is paid, and what is lost.
func (t truth) cost(b api.MendBook, n int) int {
	cost := b.Rate*t.hours[n] + t.parts[n]
	if !has(t.changed, b.Jobs[n].Kind) {
		cost += b.Extra[t.maker]
	}
	return cost
}

func (t truth) paid(b api.MendBook, n int) int {
	cost := t.cost(b, n)
	if most := b.Jobs[n].Cap; most != free && most < cost {
		return most
	}
	return cost
}

func (t truth) lost(b api.MendBook, n int) int { return t.cost(b, n) - t.paid(b, n) }

// bill and loss return what is paid and lost in a truth.
func (t truth) bill(b api.MendBook) int {
	sum := 0
	for n := range b.Jobs {
		sum += t.paid(b, n)
	}
	return sum
}

func (t truth) loss(b api.MendBook) int {
	sum := 0
	for n := range b.Jobs {
		sum += t.lost(b, n)
	}
	return sum
}

// knowledge is what all truths of a book tell: from what to what all is, and the set of makers with whom the bill can be each number of pence.
type knowledge struct {
	many         int
	bill, loss   api.Span
	costs, losts [api.MendJobs]api.Span
	makers       map[int]int
}

func know(b api.MendBook) knowledge {
	k := knowledge{makers: map[int]int{}}
	for t := range truths(b) {
		isFirst := k.many == 0
		k.many++
		k.bill, k.loss = wider(isFirst, k.bill, t.bill(b)), wider(isFirst, k.loss, t.loss(b))
		for n := range b.Jobs {
			k.costs[n], k.losts[n] = wider(isFirst, k.costs[n], t.cost(b, n)), wider(isFirst, k.losts[n], t.lost(b, n))
		}
		k.makers[t.bill(b)] |= of(t.maker)
	}
	return k
}

// wider returns a span that has a number, too; this one alone if it is the first one.
func wider(isFirst bool, s api.Span, n int) api.Span {
	if isFirst {
		return just(n)
	}
	return to(min(s.Low, n), max(s.High, n))
}

// whose and dear are the references of the functions of these names.
func (k knowledge) whose(pence int) []int {
	var list []int
	for maker := range api.MakerMany {
		if has(k.makers[pence], maker) {
			list = append(list, maker)
		}
	}
	return list
}

func (k knowledge) dear(b api.MendBook) int {
	dear := nothing
	for n := range b.Jobs {
		if most := k.losts[n].High; most > 0 && (dear == nothing || most > k.losts[dear].High) {
			dear = n
		}
	}
	return dear
}

// isSomebodys reports whether a horse is somebody's.
func isSomebodys(b api.MendBook) bool { return len(histories(b.Maker)) > 0 }

// pay returns the fewest coins, and of several lists the first one, out of all lists that are just so many pence.
func pay(coins []int, pence int) []int {
	var best []int
	list := make([]int, len(coins))
	var choose func(n, left, many int)
	choose = func(n, left, many int) {
		if n == 0 {
			list[0] = left
			many += left
			if fewest := sum(best); best == nil || many < fewest || many == fewest && slices.Compare(list, best) < 0 {
				best = slices.Clone(list)
			}
			return
		}
		for list[n] = 0; list[n]*coins[n] <= left; list[n]++ {
			choose(n-1, left-list[n]*coins[n], many+list[n])
		}
	}
	choose(len(coins)-1, pence, 0)
	return best
}

// sum returns the sum of a list.
func sum(list []int) int {
	all := 0
	for _, n := range list {
		all += n
	}
	return all
}

// clone returns a copy of a book that shares no memory with it.
func clone(b api.MendBook) api.MendBook {
	b.Jobs, b.Extra, b.Coins = slices.Clone(b.Jobs), slices.Clone(b.Extra), slices.Clone(b.Coins)
	b.Maker.Makers, b.Maker.Seen = slices.Clone(b.Maker.Makers), slices.Clone(b.Maker.Seen)
	for i, marks := range b.Maker.Makers {
		b.Maker.Makers[i] = slices.Clone(marks)
	}
	return b
}

// books returns valid books with at most so many truths, always the same ones. Some of their horses are nobody's.
func books(seed uint64, many, truths int) []api.MendBook {
	r := rand.New(rand.NewPCG(seed, 8))
	var all []api.MendBook
	for len(all) < many {
		b := anyBook(r, 1+r.IntN(api.MakerMany), 1+r.IntN(4), 1+r.IntN(api.MendJobs))
		if len(all)%2 == 0 {
			b.Maker.Seen = rightMarks(r, b, anyTruth(r, b), r.IntN(api.MakerSeen+1))
		} else {
			b.Maker.Seen = anyMarks(r, kinds(b), r.IntN(4))
		}
		ways := len(histories(b.Maker))
		for _, j := range b.Jobs {
			ways *= (j.Hours.High - j.Hours.Low + 1) * (j.Parts.High - j.Parts.Low + 1)
		}
		if ways <= truths {
			all = append(all, b)
		}
	}
	return all
}

// wideBooks returns valid books of the most kinds and makers, whose horses are somebody's, always the same ones, with one truth of each.
func wideBooks(seed uint64, many int) iter.Seq2[api.MendBook, truth] {
	r := rand.New(rand.NewPCG(seed, 9))
	return func(yield func(b api.MendBook, t truth) bool) {
		for range many {
			b := anyBook(r, api.MakerMany-r.IntN(3), api.MakerKinds-r.IntN(4), api.MendJobs-r.IntN(3))
			t := anyTruth(r, b)
			b.Maker.Seen = rightMarks(r, b, t, r.IntN(api.MakerSeen+1))
			if !yield(b, t) {
				return
			}
		}
	}
}

// anyBook returns a book without marks.
func anyBook(r *rand.Rand, makers, kinds, jobs int) api.MendBook {
	b := api.MendBook{Rate: r.IntN(api.MendRate + 1), Coins: anyCoins(r)}
	if r.IntN(2) == 0 {
		b.Rate /= 4
	}
	b.Maker.Repairs = r.IntN(kinds + 1)
	if r.IntN(2) == 0 {
		b.Maker.Fixed = r.IntN(1 << kinds)
	}
	for range makers {
		var marks []int
		for range kinds {
			marks = append(marks, fewValues(r))
		}
		b.Maker.Makers = append(b.Maker.Makers, marks)
		b.Extra = append(b.Extra, r.IntN(api.MendExtra+1)/(1+r.IntN(5)))
	}
	for range jobs {
		b.Jobs = append(b.Jobs, anyJob(r, kinds, b.Rate))
	}
	return b
}

// anyJob returns a job of which the customer mostly remembers something near to what it costs.
func anyJob(r *rand.Rand, kinds, rate int) api.MendJob {
	j := job(r.IntN(kinds), anySpan(r, api.MendHours/(1+3*r.IntN(2)), api.MendLong), anySpan(r, api.MendParts/(1+9*r.IntN(2)), api.MendWide), free)
	switch r.IntN(8) {
	case 0:
		j.Cap = 0
	case 1:
		j.Cap = r.IntN(api.MendCap + 1)
	case 2, 3, 4, 5:
		j.Cap = rate*j.Hours.Low + j.Parts.Low + r.IntN(rate*4+20)
	}
	return j
}

// anySpan returns a span from 0 to an end whose two ends are no more than so far apart.
func anySpan(r *rand.Rand, end, apart int) api.Span {
	low := r.IntN(end + 1)
	return to(low, min(end, low+r.IntN(apart+1)))
}

// anyCoins returns a penny, and some more coins.
func anyCoins(r *rand.Rand) []int {
	all := []int{1}
	most := []int{8, 20, api.MendCoin}[r.IntN(3)]
	for range r.IntN(api.MendCoins) {
		all = append(all, 2+r.IntN(most-1))
	}
	slices.Sort(all)
	return slices.Compact(all)
}

// fewValues returns a set of mostly one to three values.
func fewValues(r *rand.Rand) int {
	if r.IntN(9) == 0 {
		return 1 + r.IntN(31)
	}
	return 1<<r.IntN(5) | 1<<r.IntN(5)&r.IntN(32) | 1<<r.IntN(5)&r.IntN(32)
}

// anyMarks returns so many marks, rightly seen or not.
func anyMarks(r *rand.Rand, kinds, many int) []api.MakerMark {
	var all []api.MakerMark
	for range many {
		all = append(all, api.MakerMark{Kind: r.IntN(kinds), Values: fewValues(r)})
	}
	return all
}

// rightMarks returns so many marks that are rightly seen in a truth.
func rightMarks(r *rand.Rand, b api.MendBook, t truth, many int) []api.MakerMark {
	values := make([]int, kinds(b))
	for kind := range values {
		values[kind] = r.IntN(api.MakerValues)
		for !has(t.changed, kind) && !has(b.Maker.Makers[t.maker][kind], values[kind]) {
			values[kind] = r.IntN(api.MakerValues)
		}
	}
	all := anyMarks(r, kinds(b), many)
	for i, m := range all {
		all[i].Values |= of(values[m.Kind])
	}
	return all
}

// anyTruth returns one truth of a book without marks.
func anyTruth(r *rand.Rand, b api.MendBook) truth {
	t := truth{maker: r.IntN(len(b.Maker.Makers))}
	for _, kind := range r.Perm(kinds(b))[:r.IntN(b.Maker.Repairs+1)] {
		t.changed |= of(kind)
	}
	t.changed &^= b.Maker.Fixed
	for n, j := range b.Jobs {
		t.hours[n] = j.Hours.Low + r.IntN(j.Hours.High-j.Hours.Low+1)
		t.parts[n] = j.Parts.Low + r.IntN(j.Parts.High-j.Parts.Low+1)
	}
	return t
}
