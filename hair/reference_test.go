package hair_test

// The reference goes through all truths, all steps and all plans one by one, straight from the definitions, and so finds what package hair must return.

import (
	"math/rand/v2"
	"slices"

	"skewbald/api"
)

// truth is how much each hank weighs, and of which shade it is.
type truth struct{ weights, shades []int }

// numbers returns all numbers of a span.
func numbers(s api.Span) []int {
	var all []int
	for n := s.Low; n <= s.High; n++ {
		all = append(all, n)
	}
	return all
}

// choices returns each list that has one number out of each of several lists, the first one first.
func choices(lists [][]int) [][]int {
	all := [][]int{nil}
	for _, list := range lists {
		var longer [][]int
		for _, chosen := range all {
			for _, n := range list {
				longer = append(longer, append(slices.Clone(chosen), n))
			}
		}
		all = longer
	}
	return all
}

// truths returns all truths of a book.
func truths(b api.HairBook) []truth {
	var lists [][]int
	for _, h := range b.Hanks {
		lists = append(lists, numbers(h.Weight), numbers(h.Shade))
	}
	var all []truth
	for _, chosen := range choices(lists) {
		var t truth
		for hank := range b.Hanks {
			t.weights = append(t.weights, chosen[2*hank])
			t.shades = append(t.shades, chosen[2*hank+1])
		}
		all = append(all, t)
	}
	return all
}

// plans returns all plans of a book.
func plans(b api.HairBook) [][]int {
	var hanks []int
	for hank := range b.Hanks {
		hanks = append(hanks, hank)
	}
	return choices(slices.Repeat([][]int{hanks}, 2*len(b.Horses)))
}

// near reports whether two numbers differ by so much at most.
func near(n, m, most int) bool { return n-m <= most && m-n <= most }

// match reports whether the parts of a horse, cut from two hanks, match in a truth, dyed by some steps.
func (t truth) match(b api.HairBook, horse, mane, tail int, steps [2]int) bool {
	m, n, wanted := t.shades[mane]+steps[0], t.shades[tail]+steps[1], b.Horses[horse].Shade
	return near(m, wanted, b.Near) && near(n, wanted, b.Near) && near(m, n, b.Match)
}

// left returns what is left of each hank in a truth, which is below 0 if it is cut too far.
func (t truth) left(b api.HairBook, plan []int) []int {
	left := slices.Clone(t.weights)
	for horse, h := range b.Horses {
		left[plan[2*horse]] -= h.Mane
		left[plan[2*horse+1]] -= h.Tail
	}
	return left
}

// isEnough reports whether no hank is cut too far in a truth.
func (t truth) isEnough(b api.HairBook, plan []int) bool {
	return !slices.ContainsFunc(t.left(b, plan), func(n int) bool { return n < 0 })
}

// off returns how much is cut off in a truth.
func (t truth) off(b api.HairBook, plan []int) int {
	sum := 0
	for hank, n := range t.left(b, plan) {
		if n != t.weights[hank] {
			sum += n
		}
	}
	return sum
}

// works reports whether a plan works in a truth.
func (t truth) works(b api.HairBook, plan []int) bool {
	for horse := range b.Horses {
		if _, found := steps(b, []truth{t}, horse, plan[2*horse], plan[2*horse+1]); !found {
			return false
		}
	}
	return t.isEnough(b, plan)
}

// steps returns the first steps by which the parts of a horse match in each of some truths, and whether there are some.
func steps(b api.HairBook, in []truth, horse, mane, tail int) (s [2]int, found bool) {
	for m := 0; m <= b.Dark; m++ {
		for n := 0; n <= b.Dark; n++ {
			s := [2]int{m, n}
			if !slices.ContainsFunc(in, func(t truth) bool { return !t.match(b, horse, mane, tail, s) }) {
				return s, true
			}
		}
	}
	return [2]int{}, false
}

// knowledge is a book with all its truths, and which parts surely match.
type knowledge struct {
	b    api.HairBook
	all  []truth
	dyes map[[3]int][2]int
}

func know(b api.HairBook) knowledge {
	k := knowledge{b, truths(b), map[[3]int][2]int{}}
	for horse := range b.Horses {
		for mane := range b.Hanks {
			for tail := range b.Hanks {
				if s, found := steps(b, k.all, horse, mane, tail); found {
					k.dyes[[3]int{horse, mane, tail}] = s
				}
			}
		}
	}
	return k
}

// works, left, off, best, lacks, buy and perhaps are the references of the functions of these names.
func (k knowledge) works(plan []int) bool {
	for horse := range k.b.Horses {
		if _, found := k.dyes[[3]int{horse, plan[2*horse], plan[2*horse+1]}]; !found {
			return false
		}
	}
	return !slices.ContainsFunc(k.all, func(t truth) bool { return !t.isEnough(k.b, plan) })
}

// ends returns the least and the greatest that a number is in any truth.
func (k knowledge) ends(number func(t truth) int) api.Span {
	var all []int
	for _, t := range k.all {
		all = append(all, number(t))
	}
	return to(slices.Min(all), slices.Max(all))
}

func (k knowledge) left(plan []int, hank int) api.Span {
	return k.ends(func(t truth) int { return t.left(k.b, plan)[hank] })
}

func (k knowledge) off(plan []int) api.Span {
	return k.ends(func(t truth) int { return t.off(k.b, plan) })
}

// served returns the plans that surely work.
func (k knowledge) served() [][]int {
	var all [][]int
	for _, plan := range plans(k.b) {
		if k.works(plan) {
			all = append(all, plan)
		}
	}
	return all
}

func (k knowledge) best() ([]int, bool) {
	all := k.served()
	if len(all) == 0 {
		return nil, false
	}
	return slices.MinFunc(all, func(p, q []int) int {
		if n := k.off(p).High - k.off(q).High; n != 0 {
			return n
		}
		return slices.Compare(p, q)
	}), true
}

// without returns a book without some horses.
func without(b api.HairBook, out []int) api.HairBook {
	var horses []api.HairHorse
	for horse, h := range b.Horses {
		if !slices.Contains(out, horse) {
			horses = append(horses, h)
		}
	}
	b.Horses = horses
	return b
}

// sublists returns all strictly increasing lists of the numbers below n, the shorter ones first, and of those that are as long the first one.
func sublists(n int) [][]int {
	var all [][]int
	for set := range 1 << n {
		var list []int
		for i := range n {
			if set>>i&1 == 1 {
				list = append(list, i)
			}
		}
		all = append(all, list)
	}
	slices.SortFunc(all, func(l, m []int) int {
		if len(l) != len(m) {
			return len(l) - len(m)
		}
		return slices.Compare(l, m)
	})
	return all
}

func lacks(b api.HairBook) []int {
	for _, list := range sublists(len(b.Horses)) {
		if len(know(without(b, list)).served()) > 0 {
			return list
		}
	}
	return nil
}

// bought returns the book with one hank more, of which all is known.
func bought(b api.HairBook, ounces, shade int) api.HairBook {
	return changed(b, func(b *api.HairBook) { b.Hanks = append(b.Hanks, hank(just(ounces), just(shade))) })
}

// none stands for a number that there is not.
const none = -1

func buy(b api.HairBook, shade int) int {
	if len(know(b).served()) > 0 {
		return 0
	}
	for n := 1; n <= api.HairOunces; n++ {
		if len(know(bought(b, n, shade)).served()) > 0 {
			return n
		}
	}
	return none
}

func (k knowledge) perhaps() bool {
	for _, plan := range plans(k.b) {
		if slices.ContainsFunc(k.all, func(t truth) bool { return t.works(k.b, plan) }) {
			return true
		}
	}
	return false
}

// clone returns a copy of a book that shares no memory with it.
func clone(b api.HairBook) api.HairBook {
	b.Hanks, b.Horses = slices.Clone(b.Hanks), slices.Clone(b.Horses)
	return b
}

// books returns valid books with no more than so many truths and plans together, always the same ones.
func books(seed uint64, many, size int) []api.HairBook {
	r := rand.New(rand.NewPCG(seed, 6))
	var all []api.HairBook
	for len(all) < many {
		b := anyBook(r, r.IntN(api.HairHanks+1), r.IntN(api.HairHorses+1))
		if sizeOf(b) <= size {
			all = append(all, b)
		}
	}
	return all
}

// fullBooks returns valid books of the most hanks, which are light, and of one horse.
func fullBooks(seed uint64, many int) []api.HairBook {
	r := rand.New(rand.NewPCG(seed, 8))
	var all []api.HairBook
	for len(all) < many {
		b := anyBook(r, api.HairHanks, 1)
		for hank, h := range b.Hanks {
			b.Hanks[hank].Weight = just(max(h.Weight.Low-r.IntN(6), 1))
		}
		all = append(all, b)
	}
	return all
}

// sizeOf returns the product of the numbers of truths and of plans.
func sizeOf(b api.HairBook) int {
	size := 1
	for _, h := range b.Hanks {
		size *= len(numbers(h.Weight)) * len(numbers(h.Shade))
	}
	for range 2 * len(b.Horses) {
		size *= len(b.Hanks)
	}
	return size
}

// wideBooks returns valid books of the most hanks and horses, what is known of which is as little as can be.
func wideBooks(seed uint64, many int) []api.HairBook {
	r := rand.New(rand.NewPCG(seed, 7))
	var all []api.HairBook
	for range many {
		b := anyBook(r, api.HairHanks, api.HairHorses)
		for i, h := range b.Hanks {
			b.Hanks[i].Weight = to(min(h.Weight.Low+r.IntN(9), api.HairOunces-api.HairWide), 0)
			b.Hanks[i].Weight.High = b.Hanks[i].Weight.Low + r.IntN(api.HairWide+1)
		}
		all = append(all, b)
	}
	return all
}

// anyBook returns a book whose shades are near each other, and some of whose hanks weigh about as much as some parts.
func anyBook(r *rand.Rand, hanks, horses int) api.HairBook {
	b := api.HairBook{Dark: r.IntN(api.HairDark + 1), Near: r.IntN(api.HairNear + 1), Match: r.IntN(api.HairNear + 1)}
	about := r.IntN(api.HairShades - 1)
	most := []int{3, 8, 20, api.HairPart}[r.IntN(4)]
	for range horses {
		b.Horses = append(b.Horses, horse(1+r.IntN(most), 1+r.IntN(most), min(about+r.IntN(6), api.HairWanted)))
	}
	for range hanks {
		weight := min(max(some(r, b)+r.IntN(4)-1, 1), api.HairOunces)
		shade := min(about+r.IntN(4), api.HairShades)
		b.Hanks = append(b.Hanks, hank(span(r, weight, api.HairOunces, api.HairWide), span(r, shade, api.HairShades, api.HairTint)))
	}
	return b
}

// some returns how much some parts of a book are together.
func some(r *rand.Rand, b api.HairBook) int {
	sum := 0
	for _, h := range b.Horses {
		sum += h.Mane*r.IntN(2) + h.Tail*r.IntN(2)
	}
	return sum
}

// span returns one from a number on that is mostly narrow.
func span(r *rand.Rand, low, most, wide int) api.Span {
	return to(low, min(low+r.IntN(wide+1)*r.IntN(2), most))
}

// anyTruth returns one truth of a book.
func anyTruth(r *rand.Rand, b api.HairBook) truth {
	var t truth
	for _, h := range b.Hanks {
		t.weights = append(t.weights, h.Weight.Low+r.IntN(len(numbers(h.Weight))))
		t.shades = append(t.shades, h.Shade.Low+r.IntN(len(numbers(h.Shade))))
	}
	return t
}
