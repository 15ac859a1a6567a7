package harness_test

// The reference goes through all truths, all orders of horses and all numbers of bad pieces, one by one, straight from the definitions, and so finds what package harness must return.

import (
	"math/rand/v2"
	"slices"

	"skewbald/api"
	"skewbald/hair"
)

// none stands for a number that there is not.
const none = -1

// numbers returns all numbers of a span.
func numbers(s api.Span) []int {
	var all []int
	for n := s.Low; n <= s.High; n++ {
		all = append(all, n)
	}
	return all
}

// truths returns in all truths how many pieces of each kind are at hand.
func truths(b api.HarnessBook) [][]int {
	all := [][]int{nil}
	for _, s := range b.Stock {
		var longer [][]int
		for _, known := range all {
			for _, n := range numbers(s) {
				longer = append(longer, append(slices.Clone(known), n))
			}
		}
		all = longer
	}
	return all
}

// byNumber returns the order of all horses of a book by their numbers.
func byNumber(b api.HarnessBook) []int {
	var all []int
	for horse := range b.Hair.Horses {
		all = append(all, horse)
	}
	return all
}

// orders returns all orders of some horses, of which the first ones come first if the horses are increasing.
func orders(horses []int) [][]int {
	if len(horses) == 0 {
		return [][]int{nil}
	}
	var all [][]int
	for _, first := range horses {
		rest := slices.DeleteFunc(slices.Clone(horses), func(n int) bool { return n == first })
		for _, l := range orders(rest) {
			all = append(all, append([]int{first}, l...))
		}
	}
	return all
}

// bald returns all horses of a book that have no hair.
func bald(b api.HarnessBook) []int {
	l, _ := hair.Lacks(b.Hair)
	return l
}

// dressed returns all horses of a book that have hair.
func dressed(b api.HarnessBook) []int {
	out := bald(b)
	return slices.DeleteFunc(byNumber(b), func(horse int) bool { return slices.Contains(out, horse) })
}

// served returns all horses that are served in an order, as they come, if so many pieces of each kind are at hand.
func served(b api.HarnessBook, order, truth []int) []int {
	var all []int
	with := dressed(b)
	left := slices.Clone(truth)
	for _, horse := range order {
		enough := slices.Contains(with, horse)
		for kind, n := range b.Needs[horse] {
			enough = enough && n <= left[kind]
		}
		if !enough {
			continue
		}
		for kind, n := range b.Needs[horse] {
			left[kind] -= n
		}
		all = append(all, horse)
	}
	return all
}

// knowledge is who is served in each truth if the horses of a book come in an order.
type knowledge struct {
	b      api.HarnessBook
	served [][]int
}

func know(b api.HarnessBook, order []int) knowledge {
	k := knowledge{b: b}
	for _, truth := range truths(b) {
		k.served = append(k.served, served(b, order, truth))
	}
	return k
}

// those returns all horses that are served in so many truths at least.
func (k knowledge) those(least int) []int {
	var all []int
	for horse := range k.b.Hair.Horses {
		times := 0
		for _, l := range k.served {
			if slices.Contains(l, horse) {
				times++
			}
		}
		if times >= least {
			all = append(all, horse)
		}
	}
	return all
}

// sure, perhaps, many, lacking, packs, over, count and queue are the references of the functions of these names, and of Order.
func (k knowledge) sure() []int { return k.those(len(k.served)) }

func (k knowledge) perhaps() []int { return k.those(1) }

func (k knowledge) many() api.Span {
	var all []int
	for _, l := range k.served {
		all = append(all, len(l))
	}
	return around(all)
}

// around returns the least and the greatest of some numbers.
func around(all []int) api.Span { return to(slices.Min(all), slices.Max(all)) }

// need returns how many pieces of a kind all horses that have hair need together.
func need(b api.HarnessBook, kind int) int {
	sum := 0
	for _, horse := range dressed(b) {
		sum += b.Needs[horse][kind]
	}
	return sum
}

func lacking(b api.HarnessBook, kind int) api.Span {
	var all []int
	for _, truth := range truths(b) {
		all = append(all, max(0, need(b, kind)-truth[kind]))
	}
	return around(all)
}

// goods returns how many good pieces there can be in so many packs.
func goods(b api.HarnessBook, packs int) []int {
	all := []int{0}
	for range packs {
		var more []int
		for _, n := range all {
			for bad := range b.Bad + 1 {
				more = append(more, n+b.Pack-bad)
			}
		}
		slices.Sort(more)
		all = slices.Compact(more)
	}
	return all
}

// overs returns how many good pieces of a kind can be left over with so many packs, below 0 if there are too few.
func overs(b api.HarnessBook, kind, packs int) api.Span {
	var all []int
	for _, n := range numbers(b.Stock[kind]) {
		for _, good := range goods(b, packs) {
			all = append(all, n+good-need(b, kind))
		}
	}
	return around(all)
}

func packs(b api.HarnessBook, kind int) int {
	n := 0
	for overs(b, kind, n).Low < 0 {
		n++
	}
	return n
}

func over(b api.HarnessBook, kind int) api.Span { return overs(b, kind, packs(b, kind)) }

// unsure returns how many horses perhaps, but not surely, are served.
func unsure(b api.HarnessBook) int {
	k := know(b, byNumber(b))
	return len(k.perhaps()) - len(k.sure())
}

// atWorst returns how many horses perhaps, but not surely, are served if a kind is counted, at the worst.
func atWorst(b api.HarnessBook, kind int) int {
	worst := 0
	for _, n := range numbers(b.Stock[kind]) {
		worst = max(worst, unsure(changed(b, stock(kind, just(n)))))
	}
	return worst
}

func count(b api.HarnessBook) int {
	if unsure(b) == 0 {
		return none
	}
	var all []int
	for kind := range b.Stock {
		all = append(all, atWorst(b, kind))
	}
	return slices.Index(all, slices.Min(all))
}

func queue(b api.HarnessBook) []int {
	var best []int
	most := none
	for _, order := range orders(byNumber(b)) {
		if n := len(know(b, order).sure()); n > most {
			best, most = order, n
		}
	}
	return best
}

// clone returns a copy of a book that shares no memory with it.
func clone(b api.HarnessBook) api.HarnessBook {
	b.Hair.Hanks, b.Hair.Horses = slices.Clone(b.Hair.Hanks), slices.Clone(b.Hair.Horses)
	b.Needs, b.Stock = slices.Clone(b.Needs), slices.Clone(b.Stock)
	for horse, l := range b.Needs {
		b.Needs[horse] = slices.Clone(l)
	}
	return b
}

// books returns valid books, always the same ones.
func books(seed uint64, many int) []api.HarnessBook {
	r := rand.New(rand.NewPCG(seed, 10))
	var all []api.HarnessBook
	for n := range many {
		switch {
		case n%20 == 0:
			all = append(all, anyBook(r, anyHair(r, 0), api.HarnessNeed))
		case n%4 == 0:
			all = append(all, rivals(r))
		default:
			all = append(all, anyBook(r, anyHair(r, 1+min(2, r.IntN(5))), []int{3, 5, api.HarnessNeed}[r.IntN(3)]))
		}
	}
	return all
}

// rivals returns a book of horses that all have hair, and want the same pieces.
func rivals(r *rand.Rand) api.HarnessBook {
	b := anyHair(r, api.HairHorses)
	b.Hanks = []api.HairHank{{Weight: just(60), Shade: just(5)}}
	for horse := range b.Horses {
		b.Horses[horse].Shade = 5
	}
	return anyBook(r, b, 2+r.IntN(4))
}

// anyBook returns a book with some hair, of whose horses each needs at most so many pieces of a kind.
func anyBook(r *rand.Rand, h api.HairBook, most int) api.HarnessBook {
	b := api.HarnessBook{Hair: h, Pack: 1 + r.IntN(api.HarnessPack)}
	b.Bad = r.IntN(b.Pack)
	if r.IntN(2) == 0 {
		b.Bad = min(b.Bad, r.IntN(3))
	}
	kinds := 1 + r.IntN(api.HarnessKinds)
	for range h.Horses {
		b.Needs = append(b.Needs, anyNeeds(r, kinds, most))
	}
	for kind := range kinds {
		b.Stock = append(b.Stock, anySpan(r, b, kind))
	}
	return b
}

// anyHair returns the hair for so many horses, some of which have none.
func anyHair(r *rand.Rand, horses int) api.HairBook {
	b := api.HairBook{Dark: r.IntN(2), Near: r.IntN(2), Match: r.IntN(2)}
	for range 1 + r.IntN(api.HairHanks) {
		weight := 6 + r.IntN(30)
		b.Hanks = append(b.Hanks, api.HairHank{Weight: to(weight, weight+r.IntN(api.HairWide+1)), Shade: just(4 + r.IntN(3))})
	}
	for range horses {
		b.Horses = append(b.Horses, api.HairHorse{Mane: 1 + r.IntN(6), Tail: 1 + r.IntN(6), Shade: 4 + r.IntN(4)})
	}
	return b
}

// anyNeeds returns how many pieces of each kind a horse needs, sometimes none.
func anyNeeds(r *rand.Rand, kinds, most int) []int {
	var all []int
	for range kinds {
		all = append(all, r.IntN(most+1)*min(1, r.IntN(6)))
	}
	return all
}

// anySpan returns how many pieces of a kind are at hand: about as many as some of the horses need.
func anySpan(r *rand.Rand, b api.HarnessBook, kind int) api.Span {
	low := r.IntN(5) - 3
	for _, l := range b.Needs {
		low += l[kind] * min(1, r.IntN(4))
	}
	low = max(0, low)
	return to(low, min(low+r.IntN(api.HarnessWide+1), api.HarnessStock))
}
