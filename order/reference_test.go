package order_test

// The reference goes through all lists of parts, and through all truths, one by one, straight from the definitions, and so finds what package order must return.

import (
	"math/rand/v2"
	"slices"

	"skewbald/api"
	"skewbald/plank"
)

// none stands for a time at which something is not so, and for a number that there is not.
const none = -1

// has reports whether n is in a set.
func has(set, n int) bool { return set>>n&1 == 1 }

// lists returns all lists of some increasing numbers, each once, in their order.
func lists(numbers []int) [][]int {
	if len(numbers) == 0 {
		return [][]int{nil}
	}
	var all [][]int
	for _, first := range numbers {
		rest := slices.DeleteFunc(slices.Clone(numbers), func(n int) bool { return n == first })
		for _, l := range lists(rest) {
			all = append(all, append([]int{first}, l...))
		}
	}
	return all
}

// cut returns the parts that are cut.
func cut(b api.OrderBook) []int {
	l, _ := plank.Most(b.Bench.Plank)
	return l
}

// keepsPairs reports whether in a list the First of each pair is before its Then, if both are there.
func keepsPairs(b api.OrderBook, list []int) bool {
	for _, p := range b.Bench.After {
		first, then := slices.Index(list, p.First), slices.Index(list, p.Then)
		if first >= 0 && then >= 0 && first > then {
			return false
		}
	}
	return true
}

// differ returns by how many the left and the right legs of some parts differ, at the bench at which they differ the most.
func differ(b api.OrderBook, parts []int) int {
	most := 0
	for at := range b.Bench.Benches {
		over := 0
		for _, part := range parts {
			switch leg := b.Bench.Legs[part]; {
			case leg.Bench != at:
			case leg.Left:
				over++
			default:
				over--
			}
		}
		most = max(most, over, -over)
	}
	return most
}

// keepsEven reports whether left and right legs stay even behind each place of a list.
func keepsEven(b api.OrderBook, list []int) bool {
	for place := range list {
		if differ(b, list[:place+1]) > b.Bench.Slack {
			return false
		}
	}
	return true
}

// orders returns all orders, the first one first.
func orders(b api.OrderBook) [][]int {
	return slices.DeleteFunc(lists(cut(b)), func(l []int) bool { return !keepsPairs(b, l) || !keepsEven(b, l) })
}

// readyBy returns the time at which a horse is ready by an order, or none.
func readyBy(b api.OrderBook, order []int, horse int) int {
	last := none
	for _, leg := range b.Horses[horse].Legs {
		place := slices.Index(order, leg)
		if place < 0 {
			return none
		}
		last = max(last, b.Each*(place+1))
	}
	return last
}

// doneIn returns the time at which a horse is done in a truth, which is the weather of each hour, if it is ready at a time; or none.
func doneIn(b api.OrderBook, truth []int, ready int) int {
	time := ready
	for _, k := range b.Coat.Coats {
		laid := firstHand(b, time)
		time = firstDry(k, truth, laid)
	}
	return time
}

// firstHand returns the first hour with a hand that is not before a time, which may be none.
func firstHand(b api.OrderBook, time int) int {
	if time == none {
		return none
	}
	for hour := time; hour < len(b.Coat.Weather); hour++ {
		if has(b.Coat.Hands, hour) {
			return hour
		}
	}
	return none
}

// firstDry returns the first time at which a coat is dry that is laid in an hour, which may be none.
func firstDry(k api.CoatKind, truth []int, laid int) int {
	if laid == none {
		return none
	}
	points := 0
	for hour := laid; hour < len(truth); hour++ {
		points += k.Gain[truth[hour]]
		if points >= k.Need {
			return hour + 1
		}
	}
	return none
}

// truths returns all truths of a book.
func truths(b api.OrderBook) [][]int {
	all := [][]int{nil}
	for _, set := range b.Coat.Weather {
		var longer [][]int
		for _, known := range all {
			for weather := range 3 {
				if has(set, weather) {
					longer = append(longer, append(slices.Clone(known), weather))
				}
			}
		}
		all = longer
	}
	return all
}

// done returns for each time at which a horse can be ready, from 0 to the end, at which times it is done, in all truths, each of which may be none.
func done(b api.OrderBook) [][]int {
	all := make([][]int, len(b.Coat.Weather)+1)
	for _, truth := range truths(b) {
		for ready := range all {
			all[ready] = append(all[ready], doneIn(b, truth, ready))
		}
	}
	return all
}

// knowledge is what all lists and all truths of a book tell.
type knowledge struct {
	api.OrderBook
	orders [][]int
	done   [][]int
}

func know(b api.OrderBook) knowledge { return knowledge{b, orders(b), done(b)} }

// doneIfReady returns at which times a horse is done, in all truths, if it is ready at a time, which may be none or behind the end.
func (k knowledge) doneIfReady(ready int) []int {
	if ready == none || ready >= len(k.done) {
		return []int{none}
	}
	return k.done[ready]
}

// span returns the time at which a horse is done by an order, at least and at most; false if it need not be done.
func (k knowledge) span(order []int, horse int) (api.Span, bool) {
	times := k.doneIfReady(readyBy(k.OrderBook, order, horse))
	if slices.Contains(times, none) {
		return api.Span{}, false
	}
	return to(slices.Min(times), slices.Max(times)), true
}

// inTime reports whether a horse surely is done in time if it is ready at a time.
func (k knowledge) inTime(horse, ready int) bool {
	isLate := func(time int) bool { return time == none || time > k.Horses[horse].Due }
	return !slices.ContainsFunc(k.doneIfReady(ready), isLate)
}

// surely, best, with, never, by and drop are the references of the functions of these names; a list that there is not is nil.
func (k knowledge) surely(order []int) []int {
	var all []int
	for horse := range k.Horses {
		if k.inTime(horse, readyBy(k.OrderBook, order, horse)) {
			all = append(all, horse)
		}
	}
	return all
}

func (k knowledge) bestOf(orders [][]int) []int {
	var best []int
	most := none
	for _, order := range orders {
		if n := len(k.surely(order)); n > most {
			best, most = order, n
		}
	}
	if most == none {
		return nil
	}
	return append([]int{}, best...)
}

func (k knowledge) best() []int { return k.bestOf(k.orders) }

// helping returns all orders by which a horse surely is done in time.
func (k knowledge) helping(horse int) [][]int {
	return slices.DeleteFunc(slices.Clone(k.orders), func(order []int) bool { return !slices.Contains(k.surely(order), horse) })
}

func (k knowledge) with(horse int) []int { return k.bestOf(k.helping(horse)) }

func (k knowledge) never() []int {
	var all []int
	for horse := range k.Horses {
		if len(k.helping(horse)) == 0 {
			all = append(all, horse)
		}
	}
	return all
}

func (k knowledge) by(horse int) int {
	for time := len(k.Coat.Weather) - 1; time >= 0; time-- {
		if k.inTime(horse, time) {
			return time
		}
	}
	return none
}

// choices returns all lists of some of a book's horses, the shorter ones first, and of those that are as long the first one first.
func (k knowledge) choices() [][]int {
	var all [][]int
	for set := range 1 << len(k.Horses) {
		var list []int
		for horse := range k.Horses {
			if has(set, horse) {
				list = append(list, horse)
			}
		}
		all = append(all, list)
	}
	slices.SortFunc(all, func(l, m []int) int {
		if len(l) != len(m) {
			return len(l) - len(m)
		}
		return slices.Compare(l, m)
	})
	return all
}

// canDrop reports whether there is an order by which all horses but some surely are done in time.
func (k knowledge) canDrop(list []int) bool {
	for _, order := range k.orders {
		served := k.surely(order)
		all := true
		for horse := range k.Horses {
			all = all && (slices.Contains(list, horse) || slices.Contains(served, horse))
		}
		if all {
			return true
		}
	}
	return false
}

func (k knowledge) drops() [][]int {
	return slices.DeleteFunc(k.choices(), func(l []int) bool { return !k.canDrop(l) })
}

func (k knowledge) drop() []int {
	if all := k.drops(); len(all) > 0 {
		return all[0]
	}
	var all []int
	for horse := range k.Horses {
		all = append(all, horse)
	}
	return all
}

// clone returns a copy of a book that shares no memory with it.
func clone(b api.OrderBook) api.OrderBook {
	b.Bench.Legs, b.Bench.After = slices.Clone(b.Bench.Legs), slices.Clone(b.Bench.After)
	p := &b.Bench.Plank
	p.Planks, p.Parts = slices.Clone(p.Planks), slices.Clone(p.Parts)
	for i := range p.Planks {
		p.Planks[i].Knots = slices.Clone(p.Planks[i].Knots)
	}
	for i := range p.Parts {
		p.Parts[i].Joints = slices.Clone(p.Parts[i].Joints)
	}
	b.Coat.Coats, b.Coat.Weather = slices.Clone(b.Coat.Coats), slices.Clone(b.Coat.Weather)
	b.Horses = slices.Clone(b.Horses)
	for i := range b.Horses {
		b.Horses[i].Legs = slices.Clone(b.Horses[i].Legs)
	}
	return b
}

// books returns valid books with few truths, always the same ones.
func books(seed uint64, many int) []api.OrderBook {
	r := rand.New(rand.NewPCG(seed, 9))
	var all []api.OrderBook
	for n := range many {
		hours := 3 + r.IntN(14)
		if n%4 == 0 {
			all = append(all, rivals(r))
			continue
		}
		all = append(all, anyBook(r, hours, 6-n%3, 1+r.IntN(3)))
	}
	return all
}

// rivals returns a book of horses that want the same places of an order: each is due a few hours after it can be ready.
func rivals(r *rand.Rand) api.OrderBook {
	parts := 2 + r.IntN(api.PlankParts-1)
	b := api.OrderBook{Bench: anyBench(r, parts), Each: 1, Coat: anyCoat(r, 12, 4, 1), Horses: anyHorses(r, parts, 12)}
	b.Bench.Slack = 3
	b.Coat.Hands = 1<<12 - 1
	b.Coat.Coats[0] = api.CoatKind{Need: 2, Gain: [3]int{1, 1, 1 + r.IntN(2)}}
	room := r.IntN(4)
	for n, h := range b.Horses {
		b.Horses[n].Due = 2 + len(h.Legs) + room + r.IntN(3)
	}
	return b
}

// longBooks returns valid books with the most hours, and mostly so many truths that nobody could go through all of them.
func longBooks(seed uint64, many int) []api.OrderBook {
	r := rand.New(rand.NewPCG(seed, 10))
	var all []api.OrderBook
	for range many {
		all = append(all, anyBook(r, api.CoatHours-r.IntN(10), api.CoatHours, 1+r.IntN(api.CoatMany)))
	}
	return all
}

// anyBook returns a book of so many hours and coats, of which so many hours can have several weathers.
func anyBook(r *rand.Rand, hours, unsure, coats int) api.OrderBook {
	parts := 1 + r.IntN(api.PlankParts)
	if r.IntN(2) == 0 {
		parts = max(parts, 4)
	}
	b := api.OrderBook{Bench: anyBench(r, parts), Each: 1, Coat: anyCoat(r, hours, unsure, coats)}
	if r.IntN(2) == 0 {
		b.Each += r.IntN(api.OrderEach)
	}
	b.Horses = anyHorses(r, parts, hours)
	return b
}

// anyBench returns a bench of so many parts, all of which can be cut, or not quite.
func anyBench(r *rand.Rand, parts int) api.BenchBook {
	b := api.BenchBook{Benches: 1 + r.IntN(api.BenchMany), Slack: []int{0, 1, 1, 1, 2, 2, 3}[r.IntN(7)]}
	b.Plank.Planks = []api.PlankWood{{Long: 15}}
	short := r.IntN(3) == 0
	for range parts {
		s := api.PlankShape{Long: 3}
		if short {
			s = api.PlankShape{Long: 3 + r.IntN(3), Joints: []int{r.IntN(3)}, Turns: r.IntN(2) == 0}
		}
		b.Plank.Parts = append(b.Plank.Parts, s)
		b.Legs = append(b.Legs, api.BenchLeg{Bench: r.IntN(b.Benches), Left: r.IntN(2) == 0})
	}
	list := r.Perm(parts)
	for range r.IntN(3) {
		if i, j := r.IntN(parts), r.IntN(parts); i < j {
			b.After = append(b.After, api.BenchPair{First: list[i], Then: list[j]})
		}
	}
	return b
}

// anyCoat returns so many coats, for so many hours, of which so many can have several weathers.
func anyCoat(r *rand.Rand, hours, unsure, coats int) api.CoatBook {
	b := api.CoatBook{Start: r.IntN(hours)}
	for range coats {
		k := api.CoatKind{Need: 1 + r.IntN(6), Gain: [3]int{1 + r.IntN(5), 1 + r.IntN(4), r.IntN(4)}}
		b.Coats = append(b.Coats, k)
	}
	lacks := r.IntN(4)
	for hour := range hours {
		b.Weather = append(b.Weather, 1<<r.IntN(3))
		if r.IntN(5) >= lacks {
			b.Hands |= 1 << hour
		}
	}
	for _, hour := range r.Perm(hours)[:min(hours, unsure)] {
		b.Weather[hour] |= 1 << r.IntN(3)
	}
	return b
}

// anyHorses returns horses that need some of so many parts.
func anyHorses(r *rand.Rand, parts, hours int) []api.OrderHorse {
	many := min(parts, 1+r.IntN(api.OrderHorses))
	all := make([]api.OrderHorse, many)
	for i, leg := range r.Perm(parts) {
		n := i
		if i >= many {
			n = r.IntN(many + 2)
		}
		if n < many {
			all[n].Legs = append(all[n].Legs, leg)
		}
	}
	for n := range all {
		slices.Sort(all[n].Legs)
		all[n].Due = r.IntN(hours + 1)
		if r.IntN(2) == 0 {
			all[n].Due = hours - r.IntN(hours/2+1)
		}
	}
	return all
}

// anyTruth returns one truth of a book.
func anyTruth(r *rand.Rand, b api.OrderBook) []int {
	var truth []int
	for _, set := range b.Coat.Weather {
		weather := r.IntN(3)
		for !has(set, weather) {
			weather = r.IntN(3)
		}
		truth = append(truth, weather)
	}
	return truth
}
