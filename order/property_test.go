package order_test

import (
	"math/rand/v2"
	"slices"
	"testing"

	"skewbald/api"
	"skewbald/order"
)

// enough checks that each of some cases was met often enough for a test to tell something.
func enough(t *testing.T, counts map[string]int, least int, cases ...string) {
	t.Helper()
	for _, c := range cases {
		if counts[c] < least {
			t.Errorf("%s: %d times", c, counts[c])
		}
	}
}

// P9.1, P9.2: the reference finds the same, by each order.
func TestTimesLikeTheReference(t *testing.T) {
	counts := map[string]int{}
	for _, b := range books(101, 250) {
		k := know(b)
		for _, list := range someOf(k.orders, 6) {
			for n := range b.Horses {
				want := readyBy(b, list, n)
				if time, e := order.Ready(b, list, n); time != max(want, 0) || e != orNone(want) {
					t.Errorf("Ready %v, %v, %d: %d, %d, want %d", b, list, n, time, e, want)
				}
				span, ok := k.span(list, n)
				wanted := api.ErrNone
				if ok {
					wanted = api.OK
				}
				if s, e := order.Done(b, list, n); s != span || e != wanted {
					t.Errorf("Done %v, %v, %d: %v, %d, want %v, %d", b, list, n, s, e, span, wanted)
				}
				switch {
				case want == none:
					counts["not ready"]++
				case want == len(b.Coat.Weather):
					counts["ready at the end"]++
				case want > len(b.Coat.Weather):
					counts["ready behind the end"]++
				case ok && span.Low < span.High:
					counts["done sooner or later"]++
				case ok:
					counts["done at one time"]++
				case slices.Max(k.doneIfReady(want)) == none:
					counts["never done"]++
				default:
					counts["perhaps done"]++
				}
			}
		}
	}
	enough(t, counts, 30, "not ready", "ready at the end", "ready behind the end", "done sooner or later", "done at one time", "never done", "perhaps done")
}

// someOf returns at most so many of some orders, the first ones and the last ones.
func someOf(all [][]int, many int) [][]int {
	if len(all) <= many {
		return all
	}
	return slices.Concat(all[:many/2], all[len(all)-many/2:])
}

// P9.3: the reference finds the same, for each list of the parts that are cut.
func TestSurelyLikeTheReference(t *testing.T) {
	counts := map[string]int{}
	for _, b := range books(102, 200) {
		k := know(b)
		for _, list := range lists(cut(b)) {
			want, wanted := k.surely(list), api.OK
			if !slices.ContainsFunc(k.orders, func(o []int) bool { return slices.Equal(o, list) }) {
				want, wanted = nil, api.ErrOrderAsk
				counts["no order"]++
			}
			l, e := order.Surely(b, list)
			if !slices.Equal(l, want) || e != wanted {
				t.Errorf("Surely %v, %v: %v, %d, want %v, %d", b, list, l, e, want, wanted)
			}
			if e == api.OK {
				counts[[]string{"none", "one", "two", "three", "four"}[len(l)]]++
			}
		}
	}
	enough(t, counts, 20, "no order", "none", "one", "two", "three", "four")
}

// P9.4 to P9.8: the reference finds the same.
func TestBestLikeTheReference(t *testing.T) {
	counts := map[string]int{}
	for i, b := range books(103, 350) {
		k := know(b)
		x := bestCase{b: b, best: k.best(), never: k.never(), drop: k.drop()}
		for n := range b.Horses {
			x.with, x.by = append(x.with, k.with(n)), append(x.by, k.by(n))
			if x.with[n] != nil && !slices.Equal(x.with[n], x.best) {
				counts["with another order than the best one"]++
			}
			if x.with[n] != nil && !slices.Equal(x.with[n], k.helping(n)[0]) {
				counts["with another order than the first one"]++
			}
			if x.by[n] >= 0 && x.by[n] < b.Each {
				counts["sooner than it can be"]++
			}
		}
		wantBest(t, i, x)
		switch {
		case x.best == nil:
			counts["no order"]++
		case len(x.drop) == 0:
			counts["all are served"]++
		case len(x.drop) == len(b.Horses):
			counts["nobody is served"]++
		default:
			counts["some are served"]++
		}
		if x.best != nil && !slices.Equal(x.best, k.orders[0]) {
			counts["not the first order"]++
		}
		if x.best != nil && !slices.Equal(x.drop, without(b, k.surely(x.best))) {
			counts["dropped for another order"]++
		}
	}
	enough(t, counts, 8, "with another order than the best one", "with another order than the first one", "sooner than it can be", "no order", "all are served", "nobody is served", "some are served", "not the first order", "dropped for another order")
}

// without returns all horses of a book but some.
func without(b api.OrderBook, list []int) []int {
	var all []int
	for n := range b.Horses {
		if !slices.Contains(list, n) {
			all = append(all, n)
		}
	}
	return all
}

// surely returns what Surely tells of an order.
func surely(b api.OrderBook, list []int) []int {
	l, _ := order.Surely(b, list)
	return l
}

// P9.10: by no order more horses surely are done in time than by the best one; whatever the weather truly is, all that are told are done in time by it, and left and right legs stay even.
func TestTheMostHorsesByChristmas(t *testing.T) {
	r := rand.New(rand.NewPCG(104, 9))
	counts := map[string]int{}
	for _, b := range append(longBooks(104, 150), books(104, 100)...) {
		best, e := order.Best(b)
		all := orders(b)
		if (e == api.OK) != (len(all) > 0) || e != api.OK && e != api.ErrNone {
			t.Errorf("Best %v: %v, %d, of %d orders", b, best, e, len(all))
		}
		if e != api.OK {
			continue
		}
		if !keepsEven(b, best) || !keepsPairs(b, best) {
			t.Errorf("Best %v: %v, which does not keep even", b, best)
		}
		for _, list := range someOf(all, 20) {
			if one, other := surely(b, best), surely(b, list); len(one) < len(other) {
				t.Errorf("Best %v: %v, by which %v are done, but by %v %v", b, best, one, list, other)
			}
		}
		for range 10 {
			truth := anyTruth(r, b)
			for _, n := range surely(b, best) {
				ready, _ := order.Ready(b, best, n)
				span, e := order.Done(b, best, n)
				time := doneIn(b, truth, ready)
				if e != api.OK || time < span.Low || time > span.High || time > b.Horses[n].Due {
					t.Errorf("Done %v, %v, %d: %v, %d, but truly %d", b, best, n, span, e, time)
				}
				counts["in time"]++
				if span.Low < span.High {
					counts["sooner or later"]++
				}
			}
		}
	}
	enough(t, counts, 300, "in time", "sooner or later")
}

// P9.2, P9.10: in no truth a horse is done that surely is not, and the times that are told lie around the one that truly is.
func TestDoneInEveryWeather(t *testing.T) {
	r := rand.New(rand.NewPCG(105, 9))
	counts := map[string]int{}
	for _, b := range longBooks(105, 400) {
		for _, list := range someOf(orders(b), 2) {
			for n := range b.Horses {
				ready, e := order.Ready(b, list, n)
				span, f := order.Done(b, list, n)
				if e != api.OK && f != api.ErrNone {
					t.Errorf("Done %v, %v, %d: %v, %d, but it is not ready", b, list, n, span, f)
				}
				if f != api.OK {
					counts["need not be done"]++
					continue
				}
				for range 10 {
					if time := doneIn(b, anyTruth(r, b), ready); time < span.Low || time > span.High || time <= ready {
						t.Errorf("Done %v, %v, %d: %v, but truly %d", b, list, n, span, time)
					}
				}
				counts["done"]++
			}
		}
	}
	enough(t, counts, 60, "need not be done", "done")
}

// latest returns what By tells of a horse, or none.
func latest(b api.OrderBook, horse int) int {
	time, e := order.By(b, horse)
	if e != api.OK {
		return none
	}
	return time
}

// P9.11: a horse surely is done in time by an order just if it is ready no later than is told.
func TestReadyNoLater(t *testing.T) {
	counts := map[string]int{}
	for _, b := range append(longBooks(106, 80), books(106, 150)...) {
		for _, list := range someOf(orders(b), 20) {
			served := surely(b, list)
			for n := range b.Horses {
				ready, e := order.Ready(b, list, n)
				by := latest(b, n)
				is := slices.Contains(served, n)
				if is != (e == api.OK && ready <= by) {
					t.Errorf("By %v, %d: %d, but by %v, ready at %d, %d, Surely is %v", b, n, by, list, ready, e, served)
				}
				counts[map[bool]string{true: "in time", false: "not in time"}[is]]++
				if is && ready < by {
					counts["sooner than needed"]++
				}
			}
		}
	}
	enough(t, counts, 300, "in time", "not in time", "sooner than needed")
}

// P9.7, P9.11: at each time that is no later than what is told a horse surely is done in time if it is ready then, at no later one: gains are never below 0, so that no horse is done later if it was ready sooner.
func TestReadyAtEachTime(t *testing.T) {
	later := 0
	for _, b := range append(books(107, 300), limits()[:3]...) {
		k := know(b)
		for n := range b.Horses {
			by := latest(b, n)
			for time := range len(b.Coat.Weather) {
				if is := k.inTime(n, time); is != (time <= by) {
					t.Errorf("By %v, %d: %d, but if it is ready at %d: %v", b, n, by, time, is)
				}
			}
			later += min(max(by, 0), 1)
		}
	}
	if later < 200 {
		t.Errorf("%d horses can be ready later than at once", later)
	}
}

// P9.6, P9.11: each horse that some order helps is done in time by the order that is told with it, and with no other order of which this is so are more.
func TestTheOrderWithAHorse(t *testing.T) {
	counts := map[string]int{}
	for _, b := range append(longBooks(108, 60), books(108, 150)...) {
		never, _ := order.Never(b)
		all := orders(b)
		for n := range b.Horses {
			with, e := order.With(b, n)
			served := surely(b, with)
			if slices.Contains(never, n) != (e == api.ErrNone) || slices.Contains(served, n) != (e == api.OK) {
				t.Errorf("With %v, %d: %v, %d, by which %v are done; Never %v", b, n, with, e, served, never)
			}
			for _, list := range all {
				others := surely(b, list)
				if !slices.Contains(others, n) {
					continue
				}
				if e != api.OK || len(others) > len(served) || len(others) == len(served) && slices.Compare(list, with) < 0 {
					t.Errorf("With %v, %d: %v, %d, but %v", b, n, with, e, list)
				}
				counts["helped"]++
			}
			if e != api.OK {
				counts["never"]++
			}
		}
	}
	enough(t, counts, 100, "helped", "never")
}

// gentler returns some ways to change a book so that the horse n, and no other one, may gain by it.
func gentler(r *rand.Rand, b api.OrderBook, n int) map[string]api.OrderBook {
	h := b.Horses[n]
	all := map[string]api.OrderBook{}
	if end := len(b.Coat.Weather); h.Due < end {
		all["due later"] = changed(b, due(n, min(end, h.Due+1+r.IntN(4))))
	}
	if many := len(h.Legs); many > 1 {
		i := r.IntN(many)
		all["a leg less"] = changed(b, legs(n, slices.Delete(slices.Clone(h.Legs), i, i+1)...))
	}
	return all
}

// P9.12: a horse that is due later, or that needs a leg less, loses nothing.
func TestAGentlerHorse(t *testing.T) {
	r := rand.New(rand.NewPCG(109, 9))
	counts := map[string]int{}
	for _, b := range append(longBooks(109, 20), books(109, 200)...) {
		n := r.IntN(len(b.Horses))
		for name, c := range gentler(r, b, n) {
			for _, list := range someOf(orders(b), 24) {
				before, then := surely(b, list), surely(c, list)
				if !isWithin(before, then) {
					t.Errorf("%s: Surely %v, %v: %v, then %v", name, b, list, before, then)
				}
				if len(then) > len(before) {
					counts[name]++
				}
			}
			wantNoLoss(t, name, b, c)
			if latest(b, n) > latest(c, n) {
				t.Errorf("%s: By %v, %d: %d, then %d", name, b, n, latest(b, n), latest(c, n))
			}
		}
	}
	enough(t, counts, 30, "due later", "a leg less")
}

// isWithin reports whether all numbers of a list are in another one.
func isWithin(list, other []int) bool {
	return !slices.ContainsFunc(list, func(n int) bool { return !slices.Contains(other, n) })
}

// wantNoLoss checks that a book promises no less than another one.
func wantNoLoss(t *testing.T, name string, b, c api.OrderBook) {
	t.Helper()
	best, _ := order.Best(b)
	then, _ := order.Best(c)
	if len(surely(b, best)) > len(surely(c, then)) {
		t.Errorf("%s: Best %v: %v, then %v", name, b, best, then)
	}
	never, _ := order.Never(b)
	nor, _ := order.Never(c)
	if !isWithin(nor, never) {
		t.Errorf("%s: Never %v: %v, then %v", name, b, never, nor)
	}
	drop, _ := order.Drop(b)
	dropped, _ := order.Drop(c)
	if len(dropped) > len(drop) {
		t.Errorf("%s: Drop %v: %v, then %v", name, b, drop, dropped)
	}
}

// P9.12: with longer cutting nobody gains.
func TestLongerCutting(t *testing.T) {
	lost := 0
	for _, b := range append(longBooks(110, 20), books(110, 150)...) {
		if b.Each == api.OrderEach {
			continue
		}
		c := changed(b, each(b.Each+1))
		for _, list := range someOf(orders(b), 8) {
			before, then := surely(b, list), surely(c, list)
			if !isWithin(then, before) {
				t.Errorf("Surely %v, %v: %v, with longer cutting %v", b, list, before, then)
			}
			lost += len(before) - len(then)
		}
		wantNoLoss(t, "shorter cutting", c, b)
		for n := range b.Horses {
			if latest(b, n) != latest(c, n) {
				t.Errorf("By %v, %d: %d, with longer cutting %d", b, n, latest(b, n), latest(c, n))
			}
		}
	}
	if lost < 100 {
		t.Errorf("%d horses lost by longer cutting", lost)
	}
}

// P9.13: all horses but those that are told can be promised together; with fewer left out, or with a list before this one, they cannot; none are left out just if the best order serves all.
func TestThePromises(t *testing.T) {
	counts := map[string]int{}
	for _, b := range append(longBooks(111, 60), books(111, 200)...) {
		drop, e := order.Drop(b)
		if e != api.OK || !slices.IsSorted(drop) {
			t.Errorf("Drop %v: %v, %d", b, drop, e)
		}
		best, f := order.Best(b)
		if (len(drop) == 0) != (f == api.OK && len(surely(b, best)) == len(b.Horses)) {
			t.Errorf("Drop %v: %v, but Best %v, %d serves %v", b, drop, best, f, surely(b, best))
		}
		if f != api.OK && len(drop) != len(b.Horses) {
			t.Errorf("Drop %v: %v, but there is no order", b, drop)
		}
		can := f != api.OK
		for _, list := range orders(b) {
			out := without(b, surely(b, list))
			can = can || isWithin(out, drop)
			if len(out) < len(drop) || len(out) == len(drop) && slices.Compare(out, drop) < 0 {
				t.Errorf("Drop %v: %v, but by %v only %v must be left out", b, drop, list, out)
			}
		}
		if !can {
			t.Errorf("Drop %v: %v, but all others cannot be promised", b, drop)
		}
		counts[[]string{"nobody", "one", "two", "three", "four"}[len(drop)]]++
	}
	enough(t, counts, 10, "nobody", "one", "two", "three", "four")
}
