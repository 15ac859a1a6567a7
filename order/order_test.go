package order_test

import (
	"math"
	"reflect"
	"slices"
	"testing"

	"skewbald/api"
	"skewbald/order"
)

// to is all numbers from one to another one, and just is one alone.
func to(low, high int) api.Span { return api.Span{Low: low, High: high} }

func just(n int) api.Span { return to(n, n) }

// horse is one that is ordered.
func horse(due int, legs ...int) api.OrderHorse { return api.OrderHorse{Legs: legs, Due: due} }

// kind is a coat that needs so many points, and gains so many in an hour of each weather.
func kind(need, dry, fair, damp int) api.CoatKind {
	return api.CoatKind{Need: need, Gain: [3]int{dry, fair, damp}}
}

func pair(first, then int) api.BenchPair { return api.BenchPair{First: first, Then: then} }

// Sets of weathers.
const (
	fair      = 1 << api.CoatFair
	damp      = 1 << api.CoatDamp
	dryOrDamp = 1<<api.CoatDry | 1<<api.CoatDamp
)

type change func(b *api.OrderBook)

// changed returns a changed copy of a book.
func changed(b api.OrderBook, changes ...change) api.OrderBook {
	b = clone(b)
	for _, c := range changes {
		c(&b)
	}
	return b
}

// example is the book of the chapter's examples, changed.
func example(changes ...change) api.OrderBook {
	return changed(api.OrderBook{
		Bench: api.BenchBook{
			Plank:   api.PlankBook{Planks: []api.PlankWood{{Long: 16}}, Parts: slices.Repeat([]api.PlankShape{{Long: 4}}, 5)},
			Benches: 2, Slack: 1,
			Legs: []api.BenchLeg{{Left: true}, {}, {Left: true}, {}, {Bench: 1, Left: true}},
		},
		Each:   1,
		Coat:   api.CoatBook{Coats: []api.CoatKind{kind(4, 2, 2, 1)}, Weather: slices.Repeat([]int{dryOrDamp}, 12), Hands: 1<<12 - 1},
		Horses: []api.OrderHorse{horse(6, 0, 1), horse(6, 2, 3), horse(12, 4)},
	}, changes...)
}

// plain is a book of so many legs, all of which are cut, and stay even in each order; a horse is done two hours after it is ready.
func plain(parts int, list []api.OrderHorse, changes ...change) api.OrderBook {
	b := example(horses(list...), weather(slices.Repeat([]int{fair}, 12)...), coats(kind(2, 1, 1, 1)), slack(3))
	b.Bench.Plank = api.PlankBook{Planks: []api.PlankWood{{Long: 16}}, Parts: slices.Repeat([]api.PlankShape{{Long: 3}}, parts)}
	b.Bench.Legs = []api.BenchLeg{{Left: true}, {}, {Left: true}, {}, {Left: true}}[:parts]
	return changed(b, changes...)
}

func horses(l ...api.OrderHorse) change { return func(b *api.OrderBook) { b.Horses = l } }

func due(horse, time int) change { return func(b *api.OrderBook) { b.Horses[horse].Due = time } }

func legs(horse int, l ...int) change { return func(b *api.OrderBook) { b.Horses[horse].Legs = l } }

func each(hours int) change { return func(b *api.OrderBook) { b.Each = hours } }

func slack(n int) change { return func(b *api.OrderBook) { b.Bench.Slack = n } }

func after(l ...api.BenchPair) change { return func(b *api.OrderBook) { b.Bench.After = l } }

func benches(n int) change { return func(b *api.OrderBook) { b.Bench.Benches = n } }

func onePlank(long int) change {
	return func(b *api.OrderBook) { b.Bench.Plank.Planks = []api.PlankWood{{Long: long}} }
}

func coats(l ...api.CoatKind) change { return func(b *api.OrderBook) { b.Coat.Coats = l } }

func weather(sets ...int) change { return func(b *api.OrderBook) { b.Coat.Weather = sets } }

// hours changes how many hours there are, with a hand in each of them.
func hours(n, set int) change {
	return func(b *api.OrderBook) { b.Coat.Weather, b.Coat.Hands = slices.Repeat([]int{set}, n), 1<<n-1 }
}

func hands(l ...int) change {
	return func(b *api.OrderBook) {
		b.Coat.Hands = 0
		for _, hour := range l {
			b.Coat.Hands |= 1 << hour
		}
	}
}

func start(hour int) change { return func(b *api.OrderBook) { b.Coat.Start = hour } }

// later is the change of the chapter's examples; nothing is that no part is cut, and unordered that no order keeps even.
func later(b *api.OrderBook) { due(1, 8)(b) }

func nothing(b *api.OrderBook) { onePlank(3)(b) }

func unordered(b *api.OrderBook) { slack(0)(b) }

// answers are the results of all functions for a book, a list of parts and a horse, with the error of each.
type answers struct {
	ready                           int
	done                            api.Span
	by                              int
	surely, best, with, never, drop []int
	errors                          [9]api.Errno
}

func ask(b api.OrderBook, list []int, horse int) answers {
	var a answers
	a.errors[0] = order.Check(b)
	a.ready, a.errors[1] = order.Ready(b, list, horse)
	a.done, a.errors[2] = order.Done(b, list, horse)
	a.surely, a.errors[3] = order.Surely(b, list)
	a.best, a.errors[4] = order.Best(b)
	a.with, a.errors[5] = order.With(b, horse)
	a.never, a.errors[6] = order.Never(b)
	a.by, a.errors[7] = order.By(b, horse)
	a.drop, a.errors[8] = order.Drop(b)
	return a
}

// wrongBenches are changes each of which makes the Bench of the example wrong in one place.
func wrongBenches() map[string]change {
	return map[string]change{
		"no Bench":            func(b *api.OrderBook) { b.Bench = api.BenchBook{} },
		"no planks":           func(b *api.OrderBook) { b.Bench.Plank.Planks = nil },
		"a plank too long":    onePlank(17),
		"a part of no inches": func(b *api.OrderBook) { b.Bench.Plank.Parts[4].Long = 0 },
		"6 parts": func(b *api.OrderBook) {
			b.Bench.Plank.Parts = slices.Repeat([]api.PlankShape{{Long: 4}}, 6)
			b.Bench.Legs = append(b.Bench.Legs, api.BenchLeg{})
		},
		"no benches":                benches(0),
		"4 benches":                 benches(4),
		"a bench too few":           benches(1),
		"a leg too few":             func(b *api.OrderBook) { b.Bench.Legs = b.Bench.Legs[:4] },
		"no legs at all":            func(b *api.OrderBook) { b.Bench.Legs = nil },
		"Slack -1":                  slack(-1),
		"Slack 4":                   slack(4),
		"Slack far above":           slack(math.MaxInt),
		"a ring":                    after(pair(0, 1), pair(1, 0)),
		"a part with itself":        after(pair(2, 2)),
		"a pair with 5":             after(pair(0, 5)),
		"6 pairs":                   after(slices.Repeat([]api.BenchPair{pair(0, 1)}, 6)...),
		"nothing is cut, 4 benches": func(b *api.OrderBook) { nothing(b); benches(4)(b) },
	}
}

// wrongCoats are changes each of which makes the Coat of the example wrong in one place.
func wrongCoats() map[string]change {
	return map[string]change{
		"no Coat":                   func(b *api.OrderBook) { b.Coat = api.CoatBook{} },
		"no coats":                  coats(),
		"6 coats":                   coats(slices.Repeat([]api.CoatKind{kind(1, 1, 1, 1)}, 6)...),
		"Need 0":                    coats(kind(0, 1, 1, 1)),
		"Need 41":                   coats(kind(1, 1, 1, 1), kind(41, 1, 1, 1)),
		"Gain -1":                   coats(kind(1, 1, 1, -1)),
		"Gain 10":                   coats(kind(1, 10, 1, 1)),
		"no hours":                  hours(0, fair),
		"37 hours":                  hours(37, fair),
		"an hour of no weather":     func(b *api.OrderBook) { b.Coat.Weather[11] = 0 },
		"an hour of a weather more": func(b *api.OrderBook) { b.Coat.Weather[0] = 8 },
		"a hand at the end":         hands(12),
		"Hands below 0":             func(b *api.OrderBook) { b.Coat.Hands = -1 },
		"Start -1":                  start(-1),
		"Start 12":                  start(12),
		"Start far below 0":         start(math.MinInt),
		"Start far above":           start(math.MaxInt),
	}
}

// wrongHorses are changes each of which makes Each or the Horses of the example wrong in one place.
func wrongHorses() map[string]change {
	all := map[string]change{
		"no horses":                       horses(),
		"5 horses":                        horses(horse(1, 0), horse(1, 1), horse(1, 2), horse(1, 3), horse(1, 4)),
		"5 empty horses":                  horses(make([]api.OrderHorse, 5)...),
		"many horses":                     horses(slices.Repeat([]api.OrderHorse{horse(1, 0)}, 1000)...),
		"a leg of two":                    legs(1, 1, 2),
		"the last leg of two":             legs(1, 0),
		"a leg of the first and the last": legs(2, 0, 4),
		"a leg not cut of two":            legs(0, 0, 4),
		"the same horse twice":            horses(horse(6, 0, 1), horse(6, 0, 1)),
		"the same last leg":               horses(horse(6, 0, 3), horse(6, 1, 3)),
	}
	for name, n := range map[string]int{"0": 0, "-1": -1, "5": 5, "far below 0": math.MinInt, "far above": math.MaxInt} {
		all["Each "+name] = each(n)
	}
	for i := range 3 {
		name := " of a horse " + string(rune('0'+i))
		for what, n := range map[string]int{"-1": -1, "13": 13, "37": 37, "far below 0": math.MinInt, "far above": math.MaxInt} {
			all["Due "+what+name] = due(i, n)
		}
		for what, l := range map[string][]int{
			"none": nil, "empty": {}, "decreasing": {1, 0}, "decreasing at last": {0, 2, 1}, "the same twice": {0, 0}, "the last one twice": {0, 2, 2},
			"-1": {-1}, "-1 and more": {-1, 0}, "5": {5}, "5 and less": {0, 5}, "far below 0": {math.MinInt}, "far above": {math.MaxInt}, "far below and above": {math.MinInt, 0, math.MaxInt}, "many": make([]int, 1000), "6 of them": {0, 1, 2, 3, 4, 5},
		} {
			all["Legs "+what+name] = horses(slices.Insert([]api.OrderHorse{horse(6, 3), horse(6, 4)}, i, horse(6, l...))...)
		}
	}
	return all
}

// wrongBooks are books each of which is wrong in one place.
func wrongBooks() map[string]api.OrderBook {
	books := map[string]api.OrderBook{
		"nothing":          {},
		"only a Bench":     {Bench: example().Bench},
		"only a Coat":      {Coat: example().Coat},
		"no part 4":        plain(4, []api.OrderHorse{horse(1, 0), horse(1, 4)}),
		"no part 1":        plain(1, []api.OrderHorse{horse(1, 0, 1)}),
		"no time 1":        plain(1, []api.OrderHorse{horse(2, 0)}, hours(1, fair)),
		"the last of four": plain(5, []api.OrderHorse{horse(1, 0), horse(1, 1), horse(1, 2), horse(1, 0)}),
	}
	for _, changes := range []map[string]change{wrongBenches(), wrongCoats(), wrongHorses()} {
		for name, c := range changes {
			books[name] = example(c)
		}
	}
	return books
}

// wantErrors checks that all functions returned one error, and zero values.
func wantErrors(t *testing.T, name string, a answers, want api.Errno) {
	t.Helper()
	for n, e := range a.errors {
		if e != want {
			t.Errorf("%s: the error of the function %d: %d", name, n, e)
		}
	}
	if len(a.surely)+len(a.best)+len(a.with)+len(a.never)+len(a.drop) > 0 || a.ready != 0 || a.done != (api.Span{}) || a.by != 0 {
		t.Errorf("%s: %v", name, a)
	}
}

// P9.1, P1, R1, R2, R8: a book that is not valid is the first error of all functions, even with wrong questions, and if there is no order; of several errors in it too.
func TestWrongBooks(t *testing.T) {
	for name, b := range wrongBooks() {
		for _, list := range [][]int{nil, {0, 1, 2, 3}, {0, 2, 1, 3}, {9}, make([]int, 1000)} {
			for _, n := range []int{0, 2, -1, 3, 4, math.MinInt, math.MaxInt} {
				wantErrors(t, name, ask(b, list, n), api.ErrOrder)
			}
		}
	}
	for _, changes := range []map[string]change{wrongCoats(), wrongHorses()} {
		for name, c := range changes {
			wantErrors(t, name+", no order", ask(example(c, unordered), []int{0, 1, 2, 3}, -1), api.ErrOrder)
			wantErrors(t, name+", nothing is cut", ask(example(c, nothing), nil, 0), api.ErrOrder)
		}
	}
	several := api.OrderBook{Bench: api.BenchBook{Benches: -1}, Each: -1, Coat: api.CoatBook{Hands: -1, Start: -1}, Horses: []api.OrderHorse{horse(-1), horse(-1, -1)}}
	wantErrors(t, "all is wrong", ask(several, []int{-1}, -1), api.ErrOrder)
}

// limits are books with the least and the greatest of all numbers.
func limits() []api.OrderBook {
	four := []api.OrderHorse{horse(0, 4), horse(36, 0, 2), horse(36, 1), horse(36, 3)}
	return []api.OrderBook{
		plain(1, []api.OrderHorse{horse(0, 0)}, hours(1, fair)),
		plain(1, []api.OrderHorse{horse(1, 0)}, hours(1, fair), slack(0)),
		plain(1, []api.OrderHorse{horse(12, 0)}, each(4)),
		plain(5, []api.OrderHorse{horse(36, 0, 1, 2, 3, 4)}, hours(36, dryOrDamp), each(4)),
		plain(5, four, hours(36, 7), each(4), start(35)),
		plain(5, four, hours(36, dryOrDamp), coats(slices.Repeat([]api.CoatKind{kind(40, 9, 9, 8)}, 5)...)),
		plain(5, four, hours(36, damp), hands(), coats(kind(40, 0, 0, 0))),
		plain(4, []api.OrderHorse{horse(12, 0), horse(12, 1), horse(12, 2), horse(12, 3)}, each(3)),
		example(nothing),
		example(unordered),
	}
}

// P9.1, R7: both ends of each limit are valid, and all that lies between them.
func TestRightBooks(t *testing.T) {
	right := func(b api.OrderBook) {
		t.Helper()
		if e := order.Check(b); e != api.OK {
			t.Errorf("Check %v: %d", b, e)
		}
	}
	for _, b := range append(limits(), example(), example(later)) {
		right(b)
	}
	for n := 1; n <= api.OrderEach; n++ {
		for time := range 13 {
			for i := range 3 {
				right(example(each(n), due(i, time), start(time%12)))
			}
		}
	}
	// Each set of legs is one horse's, and all others another one's.
	for set := 1; set < 1<<5; set++ {
		var one, other []int
		for leg := range 5 {
			if has(set, leg) {
				one = append(one, leg)
			} else {
				other = append(other, leg)
			}
		}
		right(example(horses(horse(12, one...))))
		if len(other) > 0 {
			right(example(horses(horse(0, one...), horse(12, other...))))
		}
	}
	for n := 1; n <= api.CoatHours; n++ {
		right(example(hours(n, fair), horses(horse(n, 0)), start(n-1)))
		if e := order.Check(example(hours(n, fair), horses(horse(n+1, 0)))); e != api.ErrOrder {
			t.Errorf("Check, due behind %d hours: %d", n, e)
		}
	}
}

// wrongLists returns lists that are no orders that keep even: shorter and longer ones, such with a wrong number, with a part that is not cut or is there twice, such that do not keep a pair, and such that break.
func wrongLists(b api.OrderBook) [][]int {
	right := orders(b)
	all := [][]int{{9}, {-1}, {0, 0}, make([]int, 1000), {math.MinInt}, {math.MaxInt, 0}}
	for _, list := range append(lists(cut(b)), nil) {
		if !slices.ContainsFunc(right, func(o []int) bool { return slices.Equal(o, list) }) {
			all = append(all, list)
		}
	}
	for _, list := range right[:min(len(right), 1)] {
		n := len(list)
		all = append(all, append(slices.Clone(list), 0), append(slices.Clone(list), 4, 4), append([]int{-1}, list...))
		for i := range n {
			for _, wrong := range []int{-1, 5, list[(i+n-1)%n], math.MinInt, math.MaxInt} {
				if wrong != list[i] {
					l := slices.Clone(list)
					l[i] = wrong
					all = append(all, l)
				}
			}
			all = append(all, list[:i], append(slices.Clone(list), list[i]))
		}
	}
	return all
}

// wantListErrors checks that a list is the wrong one to be asked for.
func wantListErrors(t *testing.T, i int, b api.OrderBook, list []int, horse int) {
	t.Helper()
	n, e := order.Ready(b, list, horse)
	s, f := order.Done(b, list, horse)
	if n != 0 || s != (api.Span{}) || e != api.ErrOrderAsk || f != api.ErrOrderAsk {
		t.Errorf("the book %d: by %v %d is ready %d, %d, done %v, %d", i, list, horse, n, e, s, f)
	}
}

// P9.1, P9.2, P9.3, P9.5, P9.7, R1, R2: a wrong question comes before that there is none, and with it all results are zero.
func TestWrongQuestions(t *testing.T) {
	for i, b := range append(limits(), example(), example(later), example(after(pair(2, 0), pair(1, 3))), example(legs(0, 4), legs(1, 0, 1, 2), legs(2, 3))) {
		for _, list := range wrongLists(b) {
			for n := -1; n <= len(b.Horses); n++ {
				wantListErrors(t, i, b, list, n)
			}
			if l, e := order.Surely(b, list); len(l) != 0 || e != api.ErrOrderAsk {
				t.Errorf("the book %d: Surely %v: %v, %d", i, list, l, e)
			}
		}
		for _, n := range []int{-1, len(b.Horses), 4, 5, math.MinInt, math.MaxInt} {
			for _, list := range orders(b)[:min(len(orders(b)), 1)] {
				wantListErrors(t, i, b, list, n)
			}
			if l, e := order.With(b, n); len(l) != 0 || e != api.ErrOrderAsk {
				t.Errorf("the book %d: With %d: %v, %d", i, n, l, e)
			}
			if time, e := order.By(b, n); time != 0 || e != api.ErrOrderAsk {
				t.Errorf("the book %d: By %d: %d, %d", i, n, time, e)
			}
		}
	}
}

// timeCase is a book, an order and a horse, and what Ready and Done return of them. A time that there is not is none.
type timeCase struct {
	b     api.OrderBook
	list  []int
	horse int
	ready int
	done  api.Span
}

// P9.1, P9.2: Ready and Done, by which legs are cut when.
func TestReady(t *testing.T) {
	one, all := []api.OrderHorse{horse(12, 2)}, []api.OrderHorse{horse(12, 0, 1, 2, 3, 4)}
	for i, x := range []timeCase{
		{example(), []int{0, 1, 2, 3}, 0, 2, to(4, 6)},
		{example(), []int{0, 1, 2, 3}, 1, 4, to(6, 8)},
		{example(), []int{0, 1, 2, 3}, 2, none, just(none)},
		{example(), []int{1, 0, 3, 2}, 0, 2, to(4, 6)},
		{example(), []int{2, 3, 1, 0}, 0, 4, to(6, 8)},
		{example(), []int{2, 3, 1, 0}, 1, 2, to(4, 6)},
		{example(), []int{2, 1, 0, 3}, 0, 3, to(5, 7)},
		// The Due does not matter.
		{example(due(0, 0)), []int{0, 1, 2, 3}, 0, 2, to(4, 6)},
		// One leg that is not cut, first or last, is enough.
		{example(legs(2, 3, 4), legs(1, 2)), []int{0, 1, 2, 3}, 2, none, just(none)},
		{example(nothing), nil, 0, none, just(none)},
		{example(onePlank(7)), []int{0}, 0, none, just(none)},
		{example(onePlank(7), legs(0, 0)), []int{0}, 0, 1, to(3, 5)},
		// The first and the last leg, and all of them.
		{plain(5, one), []int{2, 0, 1, 3, 4}, 0, 1, just(3)},
		{plain(5, one), []int{4, 3, 1, 0, 2}, 0, 5, just(7)},
		{plain(5, all), []int{4, 3, 1, 0, 2}, 0, 5, just(7)},
		{plain(1, []api.OrderHorse{horse(0, 0)}), []int{0}, 0, 1, just(3)},
		// Each is the time of one leg.
		{plain(5, one, each(2)), []int{0, 1, 2, 3, 4}, 0, 6, just(8)},
		{plain(5, one, each(3)), []int{0, 1, 2, 3, 4}, 0, 9, just(11)},
		{plain(5, one, each(4)), []int{0, 2, 1, 3, 4}, 0, 8, just(10)},
	} {
		wantTimes(t, i, x)
	}
}

// P9.1, P9.2: Ready and Done, by hours, coats and hands.
func TestDone(t *testing.T) {
	one := []api.OrderHorse{horse(12, 2)}
	thick := []change{coats(kind(6, 3, 2, 1), kind(4, 0, 1, 4)), weather(dryOrDamp, dryOrDamp, dryOrDamp, dryOrDamp, fair, fair, fair, fair, fair, fair, fair, fair)}
	for i, x := range []timeCase{
		// It is ready just before the end, at the end, and behind it; and there is no hour left, or not enough of them.
		{plain(5, one, each(4)), []int{0, 1, 2, 3, 4}, 0, 12, just(none)},
		{plain(5, one, each(4)), []int{0, 1, 3, 2, 4}, 0, 16, just(none)},
		{plain(5, one, each(4)), []int{0, 1, 3, 4, 2}, 0, 20, just(none)},
		{plain(5, one, each(4), hours(13, fair), coats(kind(1, 1, 1, 1))), []int{0, 1, 2, 3, 4}, 0, 12, just(13)},
		{plain(5, one, each(4), hours(13, fair)), []int{0, 1, 2, 3, 4}, 0, 12, just(none)},
		{plain(5, one, each(4), hours(14, fair)), []int{0, 1, 2, 3, 4}, 0, 12, just(14)},
		{plain(1, []api.OrderHorse{horse(1, 0)}, hours(1, fair), coats(kind(1, 9, 9, 9))), []int{0}, 0, 1, just(none)},
		{plain(1, []api.OrderHorse{horse(1, 0)}, hours(2, fair), coats(kind(1, 9, 9, 9))), []int{0}, 0, 1, just(2)},
		// It is done in some truth and not in others, or in none.
		{example(hours(6, dryOrDamp), due(2, 0)), []int{0, 1, 2, 3}, 0, 2, to(4, 6)},
		{example(hours(6, dryOrDamp), due(2, 0)), []int{0, 1, 2, 3}, 1, 4, just(none)},
		{example(hours(7, dryOrDamp), due(2, 0)), []int{0, 1, 2, 3}, 1, 4, just(none)},
		{example(hours(8, dryOrDamp), due(2, 0)), []int{0, 1, 2, 3}, 1, 4, to(6, 8)},
		{example(coats(kind(4, 2, 2, 0))), []int{0, 1, 2, 3}, 0, 2, just(none)},
		{example(coats(kind(4, 0, 0, 0))), []int{0, 1, 2, 3}, 0, 2, just(none)},
		// Several coats, the last of which counts; and several hands.
		{example(thick...), []int{0, 1, 2, 3}, 0, 2, to(8, 10)},
		{example(append(thick, legs(0, 0))...), []int{0, 1, 2, 3}, 0, 1, to(4, 10)},
		{example(coats(kind(4, 2, 2, 1), kind(1, 1, 1, 1), kind(2, 1, 1, 2))), []int{0, 1, 2, 3}, 0, 2, to(6, 9)},
		{example(hands(1, 5)), []int{0, 1, 2, 3}, 0, 2, to(7, 9)},
		{example(hands(2, 5)), []int{0, 1, 2, 3}, 0, 2, to(4, 6)},
		{example(hands(0, 1)), []int{0, 1, 2, 3}, 0, 2, just(none)},
		{example(hands(2, 5), coats(kind(4, 2, 2, 1), kind(1, 1, 1, 1))), []int{0, 1, 2, 3}, 0, 2, just(none)},
		{example(hands(2, 6), coats(kind(4, 2, 2, 1), kind(1, 1, 1, 1))), []int{0, 1, 2, 3}, 0, 2, just(7)},
		// The Start of Coat counts for nothing.
		{example(start(1)), []int{0, 1, 2, 3}, 0, 2, to(4, 6)},
		{example(start(11)), []int{0, 1, 2, 3}, 1, 4, to(6, 8)},
		// Horses do not wait for each other.
		{plain(5, []api.OrderHorse{horse(12, 0), horse(12, 1), horse(12, 2)}), []int{0, 1, 2, 3, 4}, 2, 3, just(5)},
	} {
		wantTimes(t, i, x)
	}
}

// wantTimes checks one case of TestReady or TestDone.
func wantTimes(t *testing.T, i int, x timeCase) {
	t.Helper()
	if n, e := order.Ready(x.b, x.list, x.horse); n != max(x.ready, 0) || e != orNone(x.ready) {
		t.Errorf("Ready %d: %d, %d", i, n, e)
	}
	want := x.done
	if want.Low == none {
		want = api.Span{}
	}
	if s, e := order.Done(x.b, x.list, x.horse); s != want || e != orNone(x.done.Low) {
		t.Errorf("Done %d: %v, %d", i, s, e)
	}
}

// orNone returns the error with which a number is returned that is none.
func orNone(n int) api.Errno {
	if n == none {
		return api.ErrNone
	}
	return api.OK
}

// P9.3: Surely.
func TestSurely(t *testing.T) {
	singles := []api.OrderHorse{horse(4, 1), horse(5, 0), horse(5, 2), horse(7, 3)}
	for i, x := range []struct {
		b    api.OrderBook
		list []int
		want []int
	}{
		{example(), []int{0, 1, 2, 3}, []int{0}},
		{example(), []int{2, 3, 0, 1}, []int{1}},
		{example(), []int{0, 3, 2, 1}, nil},
		{example(later), []int{0, 1, 2, 3}, []int{0, 1}},
		{example(later), []int{2, 3, 0, 1}, []int{1}},
		// Just at the Due, and one behind it.
		{example(due(0, 5)), []int{0, 1, 2, 3}, nil},
		{example(due(0, 6)), []int{0, 1, 2, 3}, []int{0}},
		{example(due(1, 7)), []int{0, 1, 2, 3}, []int{0}},
		{plain(5, singles), []int{0, 1, 2, 3, 4}, []int{0, 1, 2, 3}},
		{plain(5, singles), []int{0, 2, 1, 3, 4}, []int{1, 2, 3}},
		{plain(5, singles), []int{4, 1, 0, 3, 2}, []int{0, 1, 3}},
		{plain(5, singles), []int{1, 4, 2, 0, 3}, []int{0, 2, 3}},
		{plain(5, singles), []int{4, 3, 2, 0, 1}, []int{2, 3}},
		{plain(5, singles, each(2)), []int{1, 4, 0, 2, 3}, []int{0}},
		{plain(5, singles, each(3)), []int{0, 1, 2, 3, 4}, []int{1}},
		{plain(5, singles, each(4)), []int{3, 1, 2, 0, 4}, []int{3}},
		{plain(5, singles, each(4)), []int{0, 1, 2, 3, 4}, nil},
		// A Due of 0, and one at the end.
		{plain(2, []api.OrderHorse{horse(0, 0), horse(12, 1)}), []int{0, 1}, []int{1}},
		{plain(1, []api.OrderHorse{horse(3, 0)}, hours(3, fair)), []int{0}, []int{0}},
		{plain(1, []api.OrderHorse{horse(2, 0)}, hours(2, fair)), []int{0}, nil},
		{plain(1, []api.OrderHorse{horse(1, 0)}, hours(1, fair)), []int{0}, nil},
		// In some truth it is done in time, in others not, or not at all.
		{example(due(0, 4)), []int{0, 1, 2, 3}, nil},
		{example(due(0, 12), coats(kind(4, 2, 2, 0))), []int{0, 1, 2, 3}, nil},
		// Ready at the end, and behind it.
		{plain(5, []api.OrderHorse{horse(12, 0), horse(12, 1), horse(12, 2)}, each(4)), []int{3, 0, 2, 1, 4}, []int{0}},
		// A part that is not cut, and no part that is.
		{example(legs(0, 0), legs(1, 1, 4), legs(2, 2), due(1, 12)), []int{0, 1, 2, 3}, []int{0, 2}},
		{example(nothing), nil, nil},
		{example(nothing), []int{}, nil},
	} {
		if l, e := order.Surely(x.b, x.list); !slices.Equal(l, x.want) || e != api.OK {
			t.Errorf("Surely %d: %v, %d", i, l, e)
		}
	}
}

// bestCase is a book, and what Best, Never and Drop return of it; an order that there is not is nil. With and By are those of each horse.
type bestCase struct {
	b           api.OrderBook
	best        []int
	never, drop []int
	with        [][]int
	by          []int
}

// P9.4 to P9.8: Best, With, Never, By and Drop.
func TestBest(t *testing.T) {
	twoOrOne := []api.OrderHorse{horse(4, 0, 1), horse(3, 2), horse(4, 3)}
	for i, x := range []bestCase{
		{example(), []int{0, 1, 2, 3}, []int{2}, []int{0, 2}, [][]int{{0, 1, 2, 3}, {2, 3, 0, 1}, nil}, []int{2, 2, 8}},
		{example(later), []int{0, 1, 2, 3}, []int{2}, []int{2}, [][]int{{0, 1, 2, 3}, {0, 1, 2, 3}, nil}, []int{2, 4, 8}},
		// No order, and one without parts.
		{example(unordered), nil, []int{0, 1, 2}, []int{0, 1, 2}, [][]int{nil, nil, nil}, []int{2, 2, 8}},
		{example(after(pair(0, 2), pair(2, 1), pair(2, 3))), nil, []int{0, 1, 2}, []int{0, 1, 2}, [][]int{nil, nil, nil}, []int{2, 2, 8}},
		{example(nothing), []int{}, []int{0, 1, 2}, []int{0, 1, 2}, [][]int{nil, nil, nil}, []int{2, 2, 8}},
		{example(nothing, unordered), []int{}, []int{0, 1, 2}, []int{0, 1, 2}, [][]int{nil, nil, nil}, []int{2, 2, 8}},
		// The pairs of the Bench, and its evenness.
		{example(after(pair(2, 0))), []int{2, 3, 0, 1}, []int{0, 2}, []int{0, 2}, [][]int{nil, {2, 3, 0, 1}, nil}, []int{2, 2, 8}},
		{example(horses(horse(6, 0, 2))), []int{0, 1, 2, 3}, []int{0}, []int{0}, [][]int{nil}, []int{2}},
		{example(horses(horse(6, 0, 2)), slack(2)), []int{0, 2, 1, 3}, nil, nil, [][]int{{0, 2, 1, 3}}, []int{2}},
		{example(horses(horse(7, 0, 2), horse(6, 1, 3))), []int{0, 1, 2, 3}, []int{1}, []int{1}, [][]int{{0, 1, 2, 3}, nil}, []int{3, 2}},
		// All are served, by the first order or by another one.
		{example(horses(horse(6, 0, 3))), []int{0, 3, 1, 2}, nil, nil, [][]int{{0, 3, 1, 2}}, []int{2}},
		{example(horses(horse(8, 0), horse(7, 1), horse(6, 2), horse(5, 3))), []int{3, 2, 1, 0}, nil, nil, [][]int{{3, 2, 1, 0}, {3, 2, 1, 0}, {3, 2, 1, 0}, {3, 2, 1, 0}}, []int{4, 3, 2, 1}},
		// As many are served by several orders: the first one. Drop leaves out the first horse, even if another order does.
		{plain(2, []api.OrderHorse{horse(3, 0), horse(3, 1)}), []int{0, 1}, nil, []int{0}, [][]int{{0, 1}, {1, 0}}, []int{1, 1}},
		{plain(2, []api.OrderHorse{horse(3, 1), horse(3, 0)}), []int{0, 1}, nil, []int{0}, [][]int{{1, 0}, {0, 1}}, []int{1, 1}},
		{plain(3, []api.OrderHorse{horse(3, 0), horse(3, 1), horse(3, 2)}), []int{0, 1, 2}, nil, []int{0, 1}, [][]int{{0, 1, 2}, {1, 0, 2}, {2, 0, 1}}, []int{1, 1, 1}},
		{plain(3, []api.OrderHorse{horse(4, 0), horse(4, 1), horse(4, 2)}), []int{0, 1, 2}, nil, []int{0}, [][]int{{0, 1, 2}, {0, 1, 2}, {0, 2, 1}}, []int{2, 2, 2}},
		{plain(4, []api.OrderHorse{horse(4, 0), horse(4, 1), horse(4, 2), horse(4, 3)}), []int{0, 1, 2, 3}, nil, []int{0, 1}, [][]int{{0, 1, 2, 3}, {0, 1, 2, 3}, {0, 2, 1, 3}, {0, 3, 1, 2}}, []int{2, 2, 2, 2}},
		// The lists of which the last horse is another one: the horse 1 must be left out, and then the first one of the others.
		{plain(3, []api.OrderHorse{horse(3, 0), horse(2, 1), horse(3, 2)}), []int{0, 1, 2}, []int{1}, []int{0, 1}, [][]int{{0, 1, 2}, nil, {2, 0, 1}}, []int{1, 0, 1}},
		// A horse that only orders help that are not the best one.
		{plain(4, twoOrOne), []int{2, 3, 0, 1}, nil, []int{0}, [][]int{{0, 1, 2, 3}, {2, 3, 0, 1}, {2, 3, 0, 1}}, []int{2, 1, 2}},
		{plain(4, append(twoOrOne[1:], horse(4, 0, 1))), []int{2, 3, 0, 1}, nil, []int{2}, [][]int{{2, 3, 0, 1}, {2, 3, 0, 1}, {0, 1, 2, 3}}, []int{1, 2, 2}},
		// Of the orders that help a horse the one by which the most are served with it.
		{plain(4, []api.OrderHorse{horse(6, 0, 1), horse(4, 2), horse(5, 3)}), []int{0, 2, 3, 1}, nil, nil, [][]int{{0, 2, 3, 1}, {0, 2, 3, 1}, {0, 2, 3, 1}}, []int{4, 2, 3}},
		{plain(4, []api.OrderHorse{horse(5, 0, 1), horse(4, 2), horse(5, 3)}), []int{0, 1, 3, 2}, nil, []int{0}, [][]int{{0, 1, 3, 2}, {0, 2, 1, 3}, {0, 1, 3, 2}}, []int{3, 2, 3}},
		// A horse is helped if it is ready at the time 0, or sooner than it can be, and no order helps it.
		{plain(1, []api.OrderHorse{horse(2, 0)}), []int{0}, []int{0}, []int{0}, [][]int{nil}, []int{0}},
		{plain(1, []api.OrderHorse{horse(1, 0)}), []int{0}, []int{0}, []int{0}, [][]int{nil}, []int{none}},
		{plain(1, []api.OrderHorse{horse(0, 0)}), []int{0}, []int{0}, []int{0}, [][]int{nil}, []int{none}},
		{plain(1, []api.OrderHorse{horse(5, 0)}, each(4)), []int{0}, []int{0}, []int{0}, [][]int{nil}, []int{3}},
		{plain(1, []api.OrderHorse{horse(6, 0)}, each(4)), []int{0}, nil, nil, [][]int{{0}}, []int{4}},
		{plain(2, []api.OrderHorse{horse(3, 0, 1)}), []int{0, 1}, []int{0}, []int{0}, [][]int{nil}, []int{1}},
		// By lies before the end; the last hour, and one of which all that dry in it are too late.
		{plain(1, []api.OrderHorse{horse(12, 0)}, coats(kind(1, 1, 1, 1))), []int{0}, nil, nil, [][]int{{0}}, []int{11}},
		{plain(1, []api.OrderHorse{horse(11, 0)}, coats(kind(1, 1, 1, 1))), []int{0}, nil, nil, [][]int{{0}}, []int{10}},
		{plain(1, []api.OrderHorse{horse(12, 0)}), []int{0}, nil, nil, [][]int{{0}}, []int{10}},
		{plain(1, []api.OrderHorse{horse(12, 0)}, coats(kind(13, 1, 1, 1))), []int{0}, []int{0}, []int{0}, [][]int{nil}, []int{none}},
		{plain(1, []api.OrderHorse{horse(12, 0)}, coats(kind(1, 1, 0, 1))), []int{0}, []int{0}, []int{0}, [][]int{nil}, []int{none}},
		// Hands let By be later than a horse begins to wait.
		{example(hands(2, 4), horses(horse(6, 0, 1), horse(8, 2, 3))), []int{0, 1, 2, 3}, nil, nil, [][]int{{0, 1, 2, 3}, {0, 1, 2, 3}}, []int{2, 4}},
		{example(hands(2, 4), horses(horse(7, 0, 1), horse(8, 2, 3))), []int{0, 1, 2, 3}, nil, nil, [][]int{{0, 1, 2, 3}, {0, 1, 2, 3}}, []int{2, 4}},
		{example(hands(), horses(horse(12, 0))), []int{0, 1, 2, 3}, []int{0}, []int{0}, [][]int{nil}, []int{none}},
		// Longer cutting, so that nobody is helped, or one alone.
		{example(each(2)), []int{0, 1, 2, 3}, []int{0, 1, 2}, []int{0, 1, 2}, [][]int{nil, nil, nil}, []int{2, 2, 8}},
		{example(each(2), later), []int{2, 3, 0, 1}, []int{0, 2}, []int{0, 2}, [][]int{nil, {2, 3, 0, 1}, nil}, []int{2, 4, 8}},
		{example(start(11)), []int{0, 1, 2, 3}, []int{2}, []int{0, 2}, [][]int{{0, 1, 2, 3}, {2, 3, 0, 1}, nil}, []int{2, 2, 8}},
		// Parts that are cut are not the first ones.
		{example(func(b *api.OrderBook) { b.Bench.Plank.Parts[0].Long = 12 }, onePlank(12), horses(horse(5, 3), horse(12, 0))), []int{3, 2, 1}, []int{1}, []int{1}, [][]int{{3, 2, 1}, nil}, []int{1, 8}},
	} {
		wantBest(t, i, x)
	}
}

// wantBest checks one case of TestBest.
func wantBest(t *testing.T, i int, x bestCase) {
	t.Helper()
	l, e := order.Best(x.b)
	wantOrder(t, "Best", i, l, e, x.best)
	if l, e := order.Never(x.b); !slices.Equal(l, x.never) || e != api.OK {
		t.Errorf("Never %d: %v, %d", i, l, e)
	}
	if l, e := order.Drop(x.b); !slices.Equal(l, x.drop) || e != api.OK {
		t.Errorf("Drop %d: %v, %d", i, l, e)
	}
	for n := range x.b.Horses {
		l, e := order.With(x.b, n)
		wantOrder(t, "With", i, l, e, x.with[n])
		if time, e := order.By(x.b, n); time != max(x.by[n], 0) || e != orNone(x.by[n]) {
			t.Errorf("By %d, %d: %d, %d", i, n, time, e)
		}
	}
}

// wantOrder checks an order, or that there is none.
func wantOrder(t *testing.T, name string, i int, l []int, e api.Errno, want []int) {
	t.Helper()
	wanted := api.OK
	if want == nil {
		wanted = api.ErrNone
	}
	if !slices.Equal(l, want) || e != wanted {
		t.Errorf("%s %d: %v, %d", name, i, l, e)
	}
}

// spare returns a book with room behind its lists, into which nothing may be written.
func spare(b api.OrderBook) api.OrderBook {
	b = clone(b)
	b.Bench.Legs = append(b.Bench.Legs, api.BenchLeg{Bench: 7})[:len(b.Bench.Legs)]
	b.Bench.After = append(b.Bench.After, pair(7, 7))[:len(b.Bench.After)]
	p := &b.Bench.Plank
	p.Planks = append(p.Planks, api.PlankWood{Long: 7})[:len(p.Planks)]
	p.Parts = append(p.Parts, api.PlankShape{Long: 7})[:len(p.Parts)]
	b.Coat.Coats = append(b.Coat.Coats, kind(7, 7, 7, 7))[:len(b.Coat.Coats)]
	b.Coat.Weather = append(b.Coat.Weather, 77)[:len(b.Coat.Weather)]
	b.Horses = append(b.Horses, horse(77))[:len(b.Horses)]
	for i, h := range b.Horses {
		b.Horses[i].Legs = append(h.Legs, 77)[:len(h.Legs)]
	}
	return b
}

// isSpare reports whether what lies behind the lists of a book still does.
func isSpare(b api.OrderBook) bool {
	for _, h := range append(slices.Clone(b.Horses), horse(0, b.Coat.Weather...)) {
		if n := len(h.Legs); h.Legs[:n+1][n] != 77 {
			return false
		}
	}
	p := b.Bench.Plank
	n, m, o, q := len(b.Bench.Legs), len(b.Bench.After), len(p.Planks), len(p.Parts)
	k, h := len(b.Coat.Coats), len(b.Horses)
	return b.Bench.Legs[:n+1][n].Bench == 7 && b.Bench.After[:m+1][m] == pair(7, 7) && p.Planks[:o+1][o].Long == 7 && p.Parts[:q+1][q].Long == 7 &&
		b.Coat.Coats[:k+1][k] == kind(7, 7, 7, 7) && b.Horses[:h+1][h].Due == 77
}

// P9.9, P2, R4: arguments are not changed, results are new memory, and the same arguments have the same results.
func TestMemory(t *testing.T) {
	for i, b := range append(limits(), example(), example(later), example(after(pair(2, 0)))) {
		b = spare(b)
		before := clone(b)
		list := []int{99}
		if all := orders(b); len(all) > 0 {
			list = append(slices.Clone(all[0]), 99)
		}
		n := len(list) - 1
		given := slices.Clone(list)
		first, kept := ask(b, list[:n], 0), ask(clone(b), slices.Clone(list[:n]), 0)
		if !reflect.DeepEqual(first, kept) {
			t.Errorf("the book %d: %v, then %v", i, kept, first)
		}
		results := [][]int{first.surely, first.best, first.with, first.never, first.drop}
		for k, l := range results {
			for m := range l {
				l[m] = 90 + k
			}
			_ = append(l, 99)
		}
		for k, l := range results {
			if slices.ContainsFunc(l, func(n int) bool { return n != 90+k }) {
				t.Errorf("the book %d: results share memory: %v", i, results)
			}
		}
		if second := ask(b, list[:n], 0); !reflect.DeepEqual(second, kept) {
			t.Errorf("the book %d: %v, then %v", i, kept, second)
		}
		if !reflect.DeepEqual(b, before) || !isSpare(b) || !slices.Equal(list, given) {
			t.Errorf("%v, %v was changed to %v, %v", before, given, b, list)
		}
	}
}

// P9.9: what is done to an argument later does not change a result.
func TestNothingIsRetained(t *testing.T) {
	b, list := example(later), []int{2, 3, 0, 1}
	first, kept := ask(b, list, 1), ask(example(later), slices.Clone(list), 1)
	for _, h := range b.Horses {
		clear(h.Legs)
	}
	clear(b.Horses)
	clear(b.Coat.Coats)
	clear(b.Coat.Weather)
	clear(b.Bench.Legs)
	clear(b.Bench.Plank.Planks)
	clear(b.Bench.Plank.Parts)
	clear(list)
	if !reflect.DeepEqual(first, kept) {
		t.Errorf("%v became %v", kept, first)
	}
	if e := order.Check(b); e != api.ErrOrder {
		t.Errorf("Check of the cleared book: %d", e)
	}
	if second := ask(example(later), []int{2, 3, 0, 1}, 1); !reflect.DeepEqual(second, kept) {
		t.Errorf("%v, then %v", kept, second)
	}
}

// R3: there is no difference between a nil list and an empty one.
func TestEmptyLists(t *testing.T) {
	for i, c := range []change{nothing, unordered, later} {
		for n := -1; n < 4; n++ {
			one, other := ask(example(c), nil, n), ask(example(c, after([]api.BenchPair{}...)), []int{}, n)
			if !reflect.DeepEqual(one, other) {
				t.Errorf("the change %d: with nil %v, with empty lists %v", i, one, other)
			}
		}
	}
	for _, c := range []change{horses([]api.OrderHorse{}...), legs(0, []int{}...), coats([]api.CoatKind{}...), weather([]int{}...)} {
		wantErrors(t, "empty lists", ask(example(c), []int{}, 0), api.ErrOrder)
	}
}
