package bench_test

import (
	"math"
	"reflect"
	"slices"
	"testing"

	"skewbald/api"
	"skewbald/bench"
)

func left(at int) api.BenchLeg { return api.BenchLeg{Bench: at, Left: true} }

func right(at int) api.BenchLeg { return api.BenchLeg{Bench: at} }

func pair(first, then int) api.BenchPair { return api.BenchPair{First: first, Then: then} }

// wood is one plank without knots, and so many parts of four inches without joints.
func wood(long, parts int) api.PlankBook {
	return api.PlankBook{
		Planks: []api.PlankWood{{Long: long}},
		Parts:  slices.Repeat([]api.PlankShape{{Long: 4}}, parts),
	}
}

type change func(b *api.BenchBook)

// changed returns a changed copy of a book.
func changed(b api.BenchBook, changes ...change) api.BenchBook {
	b = clone(b)
	for _, c := range changes {
		c(&b)
	}
	return b
}

// example is the book of the chapter's examples, changed.
func example(changes ...change) api.BenchBook {
	return changed(api.BenchBook{
		Plank:   wood(16, 5),
		Benches: 2,
		Legs:    []api.BenchLeg{left(0), right(0), left(0), right(0), left(1)},
		Slack:   1,
	}, changes...)
}

// these is a book of some legs all of which are cut, with three benches, changed.
func these(legs []api.BenchLeg, changes ...change) api.BenchBook {
	b := api.BenchBook{Benches: 3, Legs: legs, Slack: 1}
	b.Plank = wood(4, len(legs))
	b.Plank.Planks = slices.Repeat([]api.PlankWood{{Long: 8}}, 3)
	return changed(b, changes...)
}

// onePlank is another plank, and the only one.
func onePlank(long int) change {
	return func(b *api.BenchBook) { b.Plank.Planks = []api.PlankWood{{Long: long}} }
}

// long changes how many inches long each part is.
func long(inches ...int) change {
	return func(b *api.BenchBook) {
		for part, n := range inches {
			b.Plank.Parts[part].Long = n
		}
	}
}

func legs(l ...api.BenchLeg) change { return func(b *api.BenchBook) { b.Legs = l } }

func after(l ...api.BenchPair) change { return func(b *api.BenchBook) { b.After = l } }

func slack(n int) change { return func(b *api.BenchBook) { b.Slack = n } }

func benches(n int) change { return func(b *api.BenchBook) { b.Benches = n } }

// tied and loose are the changes of the chapter's examples.
func tied(b *api.BenchBook) { after(pair(1, 2))(b) }

func loose(b *api.BenchBook) { slack(2)(b) }

// nothing is that no part is cut, however many there are.
func nothing(b *api.BenchBook) { onePlank(3)(b) }

// Lists of legs.
func threeLeft() []api.BenchLeg { return []api.BenchLeg{left(0), left(0), left(0)} }

func fiveRight() []api.BenchLeg { return slices.Repeat([]api.BenchLeg{right(2)}, 5) }

func fourAndOne() []api.BenchLeg {
	return []api.BenchLeg{left(0), left(0), left(0), left(0), right(0)}
}

func twoBenches() []api.BenchLeg { return []api.BenchLeg{left(0), left(1), right(0), right(1)} }

// answers are the results of all functions for a book, a bench and an order, with the error of each.
type answers struct {
	cut, breaks, keeps []int
	over, place        int
	slack, least       int
	first, then        int
	errors             [9]api.Errno
}

func ask(b api.BenchBook, at int, order []int) answers {
	var a answers
	a.errors[0] = bench.Check(b)
	a.cut, a.errors[1] = bench.Cut(b)
	a.over, a.errors[2] = bench.Over(b, at)
	a.place, a.errors[3] = bench.First(b, order)
	a.breaks, a.errors[4] = bench.Breaks(b)
	a.keeps, a.errors[5] = bench.Keeps(b)
	a.slack, a.errors[6] = bench.Slack(b)
	a.least, a.errors[7] = bench.Least(b)
	a.first, a.then, a.errors[8] = bench.Tie(b)
	return a
}

// wrongBooks are books each of which is wrong in one place.
func wrongBooks() map[string]api.BenchBook {
	all := map[string]api.BenchBook{"nothing": {}}
	for name, c := range map[string]change{
		"no planks":                 func(b *api.BenchBook) { b.Plank.Planks = nil },
		"no planks and parts":       func(b *api.BenchBook) { b.Plank = api.PlankBook{} },
		"a plank too long":          onePlank(17),
		"a part of no inches":       long(4, 4, 0),
		"a joint too far":           func(b *api.BenchBook) { b.Plank.Parts[1].Joints = []int{4} },
		"no parts and legs":         func(b *api.BenchBook) { b.Plank.Parts, b.Legs = nil, nil },
		"6 parts and legs":          func(b *api.BenchBook) { b.Plank, b.Legs = wood(16, 6), append(b.Legs, left(0)) },
		"no benches":                benches(0),
		"4 benches":                 benches(4),
		"benches below 0":           benches(-1),
		"benches far below 0":       benches(math.MinInt),
		"benches far above":         benches(math.MaxInt),
		"a bench too few":           benches(1),
		"no legs":                   legs(),
		"a leg too few":             legs(left(0), right(0), left(0), right(0)),
		"a leg too many":            legs(left(0), right(0), left(0), right(0), left(0), right(0)),
		"many legs":                 legs(make([]api.BenchLeg, 1000)...),
		"the bench -1":              func(b *api.BenchBook) { b.Legs[0].Bench = -1 },
		"the bench 2":               func(b *api.BenchBook) { b.Legs[1].Bench = 2 },
		"the bench 3":               func(b *api.BenchBook) { b.Legs[2].Bench = 3 },
		"the last leg's bench 2":    func(b *api.BenchBook) { b.Legs[4].Bench = 2 },
		"a bench far below 0":       func(b *api.BenchBook) { b.Legs[3].Bench = math.MinInt },
		"a bench far above":         func(b *api.BenchBook) { b.Legs[3].Bench = math.MaxInt },
		"6 pairs":                   after(slices.Repeat([]api.BenchPair{pair(0, 1)}, 6)...),
		"many pairs":                after(slices.Repeat([]api.BenchPair{pair(0, 1)}, 1000)...),
		"First -1":                  after(pair(-1, 0)),
		"Then -1":                   after(pair(0, -1)),
		"First 5":                   after(pair(5, 0)),
		"Then 5":                    after(pair(0, 5)),
		"First far below 0":         after(pair(math.MinInt, 0)),
		"Then far above":            after(pair(0, math.MaxInt)),
		"Then 5 of the last":        after(pair(0, 1), pair(0, 2), pair(0, 3), pair(0, 4), pair(1, 5)),
		"a part with itself":        after(pair(2, 2)),
		"the part 0 with itself":    after(pair(0, 0)),
		"a part not cut, as well":   after(pair(0, 1), pair(4, 4)),
		"no list for 2":             after(pair(0, 1), pair(1, 0)),
		"no list for 3":             after(pair(2, 1), pair(1, 0), pair(0, 2)),
		"no list for 5":             after(pair(0, 1), pair(1, 2), pair(2, 3), pair(3, 4), pair(4, 0)),
		"no list for 2 of several":  after(pair(0, 1), pair(0, 2), pair(2, 3), pair(3, 2)),
		"no list, for one not cut":  after(pair(0, 4), pair(4, 0)),
		"no list, by one not cut":   after(pair(0, 4), pair(4, 1), pair(1, 0)),
		"Slack -1":                  slack(-1),
		"Slack 4":                   slack(4),
		"Slack far below 0":         slack(math.MinInt),
		"Slack far above":           slack(math.MaxInt),
		"nothing is cut, Slack 4":   func(b *api.BenchBook) { nothing(b); slack(4)(b) },
		"nothing is cut, no list":   func(b *api.BenchBook) { nothing(b); after(pair(0, 1), pair(1, 0))(b) },
		"nothing is cut, 4 benches": func(b *api.BenchBook) { nothing(b); benches(4)(b) },
	} {
		all[name] = example(c)
	}
	all["three benches, the bench 3"] = these(threeLeft(), func(b *api.BenchBook) { b.Legs[1].Bench = 3 })
	all["three parts, First 3"] = these(threeLeft(), after(pair(3, 0)))
	all["three parts, a leg too many"] = these(threeLeft(), legs(left(0), left(0), left(0), left(0)))
	all["one part, with itself"] = these([]api.BenchLeg{left(0)}, after(pair(0, 0)))
	return all
}

// wantErrors checks that all functions returned one error, and zero values.
func wantErrors(t *testing.T, name string, a answers, want api.Errno) {
	t.Helper()
	for n, e := range a.errors {
		if e != want {
			t.Errorf("%s: the error of the function %d: %d", name, n, e)
		}
	}
	a.errors = [9]api.Errno{}
	if len(a.cut)+len(a.breaks)+len(a.keeps) > 0 {
		t.Errorf("%s: %v", name, a)
	}
	a.cut, a.breaks, a.keeps = nil, nil, nil
	if !reflect.DeepEqual(a, answers{}) {
		t.Errorf("%s: %v", name, a)
	}
}

// P4.1, P1, R1, R2, R8: a book that is not valid is the first error of all functions, even with wrong questions; of several errors in it too.
func TestWrongBooks(t *testing.T) {
	for name, b := range wrongBooks() {
		for _, order := range [][]int{nil, {0, 1, 2, 3}, {0, 2, 1, 3}, {9}, make([]int, 1000)} {
			for _, at := range []int{0, 1, -1, 3, math.MinInt, math.MaxInt} {
				wantErrors(t, name, ask(b, at, order), api.ErrBench)
			}
		}
	}
	several := example(benches(0), slack(9), legs(), after(pair(7, 7)), func(b *api.BenchBook) { b.Plank = api.PlankBook{} })
	wantErrors(t, "all is wrong", ask(several, 0, nil), api.ErrBench)
}

// limits are books with the least and the greatest of all numbers, and with pairs of all kinds that are valid.
func limits() []api.BenchBook {
	return []api.BenchBook{
		these([]api.BenchLeg{left(0)}, benches(1), slack(0)),
		these([]api.BenchLeg{right(2)}, slack(3)),
		these(threeLeft(), benches(1), slack(3)),
		these(fiveRight(), after(pair(4, 3), pair(3, 2), pair(2, 1), pair(1, 0), pair(4, 0))),
		these(fourAndOne(), after(slices.Repeat([]api.BenchPair{pair(4, 0)}, 5)...)),
		these(twoBenches(), slack(0), after(pair(0, 3), pair(1, 3), pair(0, 2))),
		example(after(pair(4, 0), pair(4, 1), pair(4, 2), pair(4, 3), pair(0, 3))),
		example(after(pair(0, 4), pair(4, 1))),
		example(nothing),
		example(nothing, slack(0), after(pair(0, 1), pair(1, 2), pair(2, 3), pair(3, 4))),
	}
}

// P4.1, R7: both ends of each limit are valid.
func TestRightBooks(t *testing.T) {
	for i, b := range append(limits(), example(), example(tied), example(loose), example(slack(0)), example(benches(3))) {
		a := ask(b, b.Benches-1, orders(b)[0])
		for n, e := range a.errors {
			if e != api.OK && (e != api.ErrNone || n != 3 && n != 4 && n != 5 && n != 8) {
				t.Errorf("the right book %d: the error of the function %d: %d", i, n, e)
			}
		}
	}
}

// P4.2, P4.3, R1: a wrong question comes before that there is none, and with it all results are zero.
func TestWrongQuestions(t *testing.T) {
	for i, b := range append(limits(), example(), example(tied), example(loose)) {
		for _, at := range []int{-1, b.Benches, 3, 4, math.MinInt, math.MaxInt} {
			if n, e := bench.Over(b, at); n != 0 || e != api.ErrBenchAsk {
				t.Errorf("the book %d: Over at %d: %d, %d", i, at, n, e)
			}
		}
		for _, order := range wrongOrders(b) {
			if n, e := bench.First(b, order); n != 0 || e != api.ErrBenchAsk {
				t.Errorf("the book %d: First of %v: %d, %d", i, order, n, e)
			}
		}
	}
}

// wrongOrders returns lists that are no orders of a book: shorter and longer ones, such with a wrong number, and with a part that is not cut or is there twice.
func wrongOrders(b api.BenchBook) [][]int {
	order := orders(b)[0]
	n := len(order)
	all := [][]int{{9}, {-1}, append(slices.Clone(order), 0), append(slices.Clone(order), 4, 4), make([]int, 1000)}
	for i := range n {
		for _, wrong := range []int{-1, 5, 9, order[(i+n-1)%n], math.MinInt, math.MaxInt} {
			if wrong != order[i] {
				l := slices.Clone(order)
				l[i] = wrong
				all = append(all, l)
			}
		}
		all = append(all, order[:i], append(slices.Clone(order), order[i]))
	}
	return all
}

// P4.1, P4.2: Cut and Over.
func TestCut(t *testing.T) {
	joint := func(b *api.BenchBook) {
		b.Plank.Planks[0].Knots = []api.Span{{Low: 0, High: 2}}
		b.Plank.Parts[0].Joints = []int{0, 1}
	}
	for i, x := range []struct {
		b    api.BenchBook
		cut  []int
		over []int
	}{
		{example(), []int{0, 1, 2, 3}, []int{0, 0}},
		{example(tied), []int{0, 1, 2, 3}, []int{0, 0}},
		{example(loose), []int{0, 1, 2, 3}, []int{0, 0}},
		{example(nothing), nil, []int{0, 0}},
		{example(onePlank(4)), []int{0}, []int{1, 0}},
		{example(onePlank(11)), []int{0, 1}, []int{0, 0}},
		// The most parts, not the first ones; and which they are does not hang on pairs.
		{example(long(12), onePlank(12)), []int{1, 2, 3}, []int{-1, 0}},
		{example(long(12, 1, 12, 12, 3)), []int{0, 1, 4}, []int{0, 1}},
		{example(long(5, 4, 4, 4, 4), after(pair(0, 1), pair(0, 2))), []int{1, 2, 3, 4}, []int{-1, 1}},
		{example(long(1, 12, 12, 12, 12), after(pair(4, 0))), []int{0, 1}, []int{0, 0}},
		{example(onePlank(6), joint), []int{1}, []int{-1, 0}},
		// Left ones count up, right ones down, at each bench by itself.
		{these(threeLeft()), []int{0, 1, 2}, []int{3, 0, 0}},
		{these(fiveRight()), []int{0, 1, 2, 3, 4}, []int{0, 0, -5}},
		{these(fourAndOne()), []int{0, 1, 2, 3, 4}, []int{3, 0, 0}},
		{these([]api.BenchLeg{right(0), right(0), left(1), left(2), right(2)}), []int{0, 1, 2, 3, 4}, []int{-2, 1, 0}},
		{these([]api.BenchLeg{left(2)}), []int{0}, []int{0, 0, 1}},
		{these([]api.BenchLeg{right(1)}, slack(0)), []int{0}, []int{0, -1, 0}},
	} {
		if l, e := bench.Cut(x.b); !slices.Equal(l, x.cut) || e != api.OK {
			t.Errorf("Cut %d: %v, %d", i, l, e)
		}
		for at, want := range x.over {
			if n, e := bench.Over(x.b, at); n != want || e != api.OK {
				t.Errorf("Over %d at %d: %d, %d", i, at, n, e)
			}
		}
		if n, e := bench.Over(x.b, len(x.over)); n != 0 || e != api.ErrBenchAsk {
			t.Errorf("Over %d at %d: %d, %d", i, len(x.over), n, e)
		}
	}
}

// P4.3: First.
func TestFirst(t *testing.T) {
	for i, x := range []struct {
		b     api.BenchBook
		order []int
		want  int
		e     api.Errno
	}{
		{example(), []int{0, 1, 2, 3}, 0, api.ErrNone},
		{example(), []int{0, 2, 1, 3}, 1, api.OK},
		{example(), []int{2, 0, 1, 3}, 1, api.OK},
		{example(loose), []int{0, 2, 1, 3}, 0, api.ErrNone},
		// The first place, a later one, and the last one; right legs that are too many, too.
		{example(slack(0)), []int{0, 1, 2, 3}, 0, api.OK},
		{example(), []int{1, 3, 0, 2}, 1, api.OK},
		{example(), []int{0, 1, 3, 2}, 0, api.ErrNone},
		{these(fourAndOne(), slack(2)), []int{0, 4, 1, 2, 3}, 4, api.OK},
		{these(fourAndOne(), slack(3)), []int{0, 4, 1, 2, 3}, 0, api.ErrNone},
		{these(fourAndOne(), slack(3)), []int{0, 1, 2, 3, 4}, 3, api.OK},
		{these(fiveRight(), slack(3)), []int{4, 3, 2, 1, 0}, 3, api.OK},
		{these(fiveRight(), slack(0)), []int{4, 3, 2, 1, 0}, 0, api.OK},
		// It breaks at a place even if behind the last one all is even.
		{these([]api.BenchLeg{left(0), left(0), right(0), right(0)}), []int{0, 2, 1, 3}, 0, api.ErrNone},
		{these([]api.BenchLeg{left(0), left(0), right(0), right(0)}), []int{0, 2, 3, 1}, 0, api.ErrNone},
		{these([]api.BenchLeg{left(0), left(0), right(0), right(0)}), []int{2, 3, 0, 1}, 1, api.OK},
		// Each bench by itself.
		{these(twoBenches()), []int{0, 1, 2, 3}, 0, api.ErrNone},
		{these(twoBenches(), slack(0)), []int{0, 2, 1, 3}, 0, api.OK},
		{these([]api.BenchLeg{left(0), left(1), left(0)}), []int{1, 0, 2}, 2, api.OK},
		{these([]api.BenchLeg{left(0), right(1), right(1), right(2)}), []int{0, 1, 3, 2}, 3, api.OK},
		{these([]api.BenchLeg{left(0), right(1), right(2), right(2)}), []int{0, 2, 3, 1}, 2, api.OK},
		// Pairs that are kept, pairs that are not, and pairs with a part that is not cut.
		{example(tied), []int{1, 2, 0, 3}, 0, api.ErrNone},
		{example(tied), []int{0, 3, 1, 2}, 0, api.ErrNone},
		{example(tied), []int{0, 2, 1, 3}, 0, api.ErrBenchAsk},
		{example(after(pair(0, 1), pair(3, 2))), []int{0, 2, 1, 3}, 0, api.ErrBenchAsk},
		{example(after(pair(0, 4), pair(4, 1))), []int{1, 0, 3, 2}, 0, api.ErrNone},
		{example(after(pair(0, 4), pair(4, 1))), []int{1, 3, 0, 2}, 1, api.OK},
		// Lists that are none, on a day on which nothing is cut, and on other ones.
		{example(nothing), nil, 0, api.ErrNone},
		{example(nothing), []int{}, 0, api.ErrNone},
		{example(nothing, slack(0), after(pair(0, 1))), nil, 0, api.ErrNone},
		{example(nothing), []int{0}, 0, api.ErrBenchAsk},
		{example(), nil, 0, api.ErrBenchAsk},
		{example(), []int{}, 0, api.ErrBenchAsk},
		{example(), []int{0, 2, 1}, 0, api.ErrBenchAsk},
		{example(), []int{0, 2, 1, 3, 4}, 0, api.ErrBenchAsk},
		{example(), []int{0, 2, 1, 4}, 0, api.ErrBenchAsk},
		{example(), []int{0, 2, 2, 3}, 0, api.ErrBenchAsk},
		{example(onePlank(4)), []int{0}, 0, api.ErrNone},
		{example(onePlank(4)), []int{1}, 0, api.ErrBenchAsk},
		{example(onePlank(4), slack(0)), []int{0}, 0, api.OK},
	} {
		if n, e := bench.First(x.b, x.order); n != x.want || e != x.e {
			t.Errorf("First %d: %d, %d", i, n, e)
		}
	}
}

// wantOrder checks an order, or that there is none.
func wantOrder(t *testing.T, name string, i int, l []int, e api.Errno, want []int) {
	t.Helper()
	wanted := api.OK
	if want == nil {
		wanted = api.ErrNone
	}
	if !slices.Equal(l, want) || e != wanted {
		t.Errorf("%s %d: %v, %d", name, i, l, e)
	}
}

// P4.4, P4.5: Breaks, Keeps, Slack and Least. An order that there is not is nil.
func TestOrders(t *testing.T) {
	for i, x := range []struct {
		b             api.BenchBook
		breaks, keeps []int
		slack, least  int
	}{
		{example(), []int{0, 2, 1, 3}, []int{0, 1, 2, 3}, 2, 1},
		{example(tied), []int{1, 3, 0, 2}, []int{0, 1, 2, 3}, 2, 1},
		{example(loose), nil, []int{0, 1, 2, 3}, 2, 1},
		{example(slack(0)), []int{0, 1, 2, 3}, nil, 2, 1},
		{example(slack(3)), nil, []int{0, 1, 2, 3}, 2, 1},
		// Pairs: those that keep all orders even, and those that do not help.
		{example(after(pair(1, 2), pair(0, 3))), nil, []int{0, 1, 2, 3}, 1, 1},
		{example(after(pair(2, 1))), []int{0, 2, 1, 3}, []int{0, 3, 2, 1}, 2, 1},
		{example(after(pair(0, 2), pair(2, 1))), []int{0, 2, 1, 3}, []int{0, 3, 2, 1}, 2, 1},
		{example(after(pair(0, 2), pair(2, 1), pair(2, 3))), []int{0, 2, 1, 3}, nil, 2, 2},
		{example(after(pair(3, 2), pair(2, 1), pair(1, 0))), nil, []int{3, 2, 1, 0}, 1, 1},
		{example(after(pair(3, 1), pair(1, 2), pair(2, 0))), []int{3, 1, 2, 0}, nil, 2, 2},
		// Pairs with a part that is not cut say nothing.
		{example(after(pair(4, 0))), []int{0, 2, 1, 3}, []int{0, 1, 2, 3}, 2, 1},
		{example(after(pair(3, 4), pair(4, 0))), []int{0, 2, 1, 3}, []int{0, 1, 2, 3}, 2, 1},
		// A day on which no leg is cut has an order, which keeps even.
		{example(nothing), nil, []int{}, 0, 0},
		{example(nothing, slack(0), after(pair(0, 1))), nil, []int{}, 0, 0},
		// A leg alone.
		{example(onePlank(4)), nil, []int{0}, 1, 1},
		{example(onePlank(4), slack(0)), []int{0}, nil, 1, 1},
		// Parts that are not the first ones.
		{example(long(12, 4, 4, 4, 4), onePlank(12), slack(0)), []int{1, 2, 3}, nil, 2, 1},
		{example(long(12, 4, 4, 4, 4), onePlank(12)), []int{1, 3, 2}, []int{1, 2, 3}, 2, 1},
		// Each bench by itself, and only the one that differs the most counts.
		{these(twoBenches()), nil, []int{0, 1, 2, 3}, 1, 1},
		{these(twoBenches(), slack(0)), []int{0, 1, 2, 3}, nil, 1, 1},
		{these([]api.BenchLeg{left(0), left(2), left(2), right(0), right(2)}), []int{0, 1, 2, 3, 4}, []int{0, 1, 3, 4, 2}, 2, 1},
		{these([]api.BenchLeg{right(1), left(0), right(1), left(1), left(0)}, slack(2)), nil, []int{0, 1, 2, 3, 4}, 2, 2},
		// No order is better than what is left over at the end.
		{these(threeLeft()), []int{0, 1, 2}, nil, 3, 3},
		{these(threeLeft(), slack(3)), nil, []int{0, 1, 2}, 3, 3},
		{these([]api.BenchLeg{right(0), right(0), left(0)}), []int{0, 1, 2}, []int{0, 2, 1}, 2, 1},
		{these([]api.BenchLeg{right(0), right(0), left(0)}, after(pair(1, 2), pair(0, 1))), []int{0, 1, 2}, nil, 2, 2},
		// More than a Slack can be.
		{these(fourAndOne(), slack(3)), []int{0, 1, 2, 3, 4}, []int{0, 1, 2, 4, 3}, 4, 3},
		{these(fourAndOne(), slack(3), after(pair(3, 4))), []int{0, 1, 2, 3, 4}, []int{0, 1, 3, 4, 2}, 4, 3},
		{these(fiveRight(), slack(3)), []int{0, 1, 2, 3, 4}, nil, 5, 5},
		{these(fiveRight(), slack(0), after(pair(4, 3), pair(3, 2), pair(2, 1), pair(1, 0))), []int{4, 3, 2, 1, 0}, nil, 5, 5},
	} {
		l, e := bench.Breaks(x.b)
		wantOrder(t, "Breaks", i, l, e, x.breaks)
		l, e = bench.Keeps(x.b)
		wantOrder(t, "Keeps", i, l, e, x.keeps)
		for s := range api.BenchSlack + 1 {
			b := changed(x.b, slack(s))
			if n, e := bench.Slack(b); n != x.slack || e != api.OK {
				t.Errorf("Slack %d with %d: %d, %d", i, s, n, e)
			}
			if n, e := bench.Least(b); n != x.least || e != api.OK {
				t.Errorf("Least %d with %d: %d, %d", i, s, n, e)
			}
		}
	}
}

// P4.6: Tie.
func TestTie(t *testing.T) {
	twoAndOne := []api.BenchLeg{left(0), left(0), right(0)}
	for i, x := range []struct {
		b           api.BenchBook
		first, then int
		e           api.Errno
	}{
		// No pair helps alone, one does, and none is needed.
		{example(), 0, 0, api.ErrNone},
		{example(tied), 0, 1, api.OK},
		{example(loose), 0, 0, api.ErrNone},
		{example(after(pair(1, 2), pair(0, 3))), 0, 0, api.ErrNone},
		{example(slack(0)), 0, 0, api.ErrNone},
		{example(nothing), 0, 0, api.ErrNone},
		{example(nothing, slack(0)), 0, 0, api.ErrNone},
		{these(threeLeft()), 0, 0, api.ErrNone},
		{these(threeLeft(), slack(3)), 0, 0, api.ErrNone},
		{these([]api.BenchLeg{left(0)}, slack(0)), 0, 0, api.ErrNone},
		// The first one of several, by its first part and then by the other one.
		{example(after(pair(0, 3))), 1, 0, api.OK},
		{example(after(pair(2, 3))), 1, 0, api.OK},
		{example(after(pair(0, 1))), 1, 2, api.OK},
		{these(twoAndOne), 2, 0, api.OK},
		{these(twoAndOne, after(pair(0, 2))), 2, 1, api.OK},
		{these(twoAndOne, after(pair(1, 2))), 2, 0, api.OK},
		{these(twoAndOne, after(pair(1, 0))), 2, 0, api.OK},
		{these(fourAndOne(), slack(3)), 4, 0, api.OK},
		// A pair with which there would be no order does not help, nor one that there is already.
		{these([]api.BenchLeg{right(0), left(0), left(0)}, after(pair(0, 1))), 0, 0, api.ErrNone},
		{these(twoAndOne, after(pair(0, 1), pair(1, 2))), 0, 0, api.ErrNone},
		{these(twoAndOne, after(pair(0, 1))), 2, 0, api.OK},
		// It is one more, even if there are five.
		{example(after(slices.Repeat([]api.BenchPair{pair(1, 2)}, 5)...)), 0, 1, api.OK},
		{these(twoAndOne, after(slices.Repeat([]api.BenchPair{pair(0, 2)}, 5)...)), 2, 1, api.OK},
		// Pairs with a part that is not cut say nothing, and no such part is in a tie.
		{example(after(pair(1, 2), pair(3, 4), pair(4, 0))), 0, 1, api.OK},
		{example(after(pair(1, 2), pair(1, 4), pair(4, 0))), 0, 1, api.OK},
		{example(onePlank(12), legs(left(0), left(0), right(0), right(0), left(1))), 2, 0, api.OK},
		{example(long(12, 4, 4, 4, 4), onePlank(12), legs(left(1), right(0), left(0), right(0), left(1))), 2, 1, api.OK},
	} {
		if n, m, e := bench.Tie(x.b); n != x.first || m != x.then || e != x.e {
			t.Errorf("Tie %d: %d, %d, %d", i, n, m, e)
		}
	}
}

// spare returns a book with room behind its lists, into which nothing may be written.
func spare(b api.BenchBook) api.BenchBook {
	b = clone(b)
	b.Legs = append(b.Legs, left(7))[:len(b.Legs)]
	b.After = append(b.After, pair(7, 7))[:len(b.After)]
	b.Plank.Planks = append(b.Plank.Planks, api.PlankWood{Long: 7})[:len(b.Plank.Planks)]
	b.Plank.Parts = append(b.Plank.Parts, api.PlankShape{Long: 7})[:len(b.Plank.Parts)]
	return b
}

// isSpare reports whether what lies behind the lists of a book still does.
func isSpare(b api.BenchBook) bool {
	n, m, p, s := len(b.Legs), len(b.After), len(b.Plank.Planks), len(b.Plank.Parts)
	return b.Legs[:n+1][n] == left(7) && b.After[:m+1][m] == pair(7, 7) && b.Plank.Planks[:p+1][p].Long == 7 && b.Plank.Parts[:s+1][s].Long == 7
}

// P4.7, P2, R4: arguments are not changed, results are new memory, and the same arguments have the same results.
func TestMemory(t *testing.T) {
	for i, b := range append(limits(), example(), example(tied), example(loose), example(slack(0))) {
		b = spare(b)
		before := clone(b)
		order := append(slices.Clone(orders(b)[0]), 99)
		n := len(order) - 1
		given := slices.Clone(order)
		first := ask(b, 0, order[:n])
		kept := ask(clone(b), 0, slices.Clone(order[:n]))
		if !reflect.DeepEqual(first, kept) {
			t.Errorf("the book %d: %v, then %v", i, kept, first)
		}
		results := [][]int{first.cut, first.breaks, first.keeps}
		for k, l := range results {
			for m := range l {
				l[m] = 90 + k
			}
			_ = append(l, 99)
		}
		for k, l := range results {
			if slices.ContainsFunc(l, func(n int) bool { return n != 90+k }) {
				t.Errorf("the book %d: results share memory: %v", i, results)
			}
		}
		if second := ask(b, 0, order[:n]); !reflect.DeepEqual(second, kept) {
			t.Errorf("the book %d: %v, then %v", i, kept, second)
		}
		if !slices.Equal(order, given) || !reflect.DeepEqual(b, before) || !isSpare(b) {
			t.Errorf("%v, %v was changed to %v, %v", before, given, b, order)
		}
	}
}

// P4.7: what is done to an argument later does not change a result.
func TestNothingIsRetained(t *testing.T) {
	b, order := example(tied, slack(0)), []int{0, 1, 2, 3}
	first := ask(b, 1, order)
	kept := ask(example(tied, slack(0)), 1, []int{0, 1, 2, 3})
	clear(order)
	clear(b.Legs)
	clear(b.After)
	clear(b.Plank.Planks)
	clear(b.Plank.Parts)
	if !reflect.DeepEqual(first, kept) {
		t.Errorf("%v became %v", kept, first)
	}
	if e := bench.Check(b); e != api.ErrBench {
		t.Errorf("Check of the cleared book: %d", e)
	}
	if second := ask(example(tied, slack(0)), 1, []int{0, 1, 2, 3}); !reflect.DeepEqual(second, kept) {
		t.Errorf("%v, then %v", kept, second)
	}
}
