package bench_test

import (
	"math/rand/v2"
	"reflect"
	"slices"
	"testing"

	"skewbald/api"
	"skewbald/bench"
)

// sameOrder reports whether the first one of some orders, or that there is none, was returned.
func sameOrder(l []int, e api.Errno, of [][]int) bool {
	if len(of) == 0 {
		return len(l) == 0 && e == api.ErrNone
	}
	return slices.Equal(l, of[0]) && e == api.OK
}

// P4.1, P4.2: the reference finds the same.
func TestCutLikeTheReference(t *testing.T) {
	few, below := 0, 0
	for _, b := range books(41, 600) {
		want := cut(b)
		if l, e := bench.Cut(b); !slices.Equal(l, want) || !slices.IsSorted(l) || e != api.OK {
			t.Errorf("Cut %v: %v, %d, want %v", b, l, e, want)
		}
		if len(want) < len(b.Legs) {
			few++
		}
		for at := range b.Benches {
			lefts, rights := counts(b, want, at)
			if n, e := bench.Over(b, at); n != lefts-rights || e != api.OK {
				t.Errorf("Over %v, %d: %d, %d, want %d", b, at, n, e, lefts-rights)
			}
			if lefts < rights {
				below++
			}
		}
	}
	if few < 100 || below < 100 {
		t.Errorf("%d times a part was not cut, %d times right legs were more", few, below)
	}
}

// P4.3: the reference finds the same, for each list of parts.
func TestFirstLikeTheReference(t *testing.T) {
	seen := map[api.Errno]int{}
	late := 0
	for _, b := range books(42, 150) {
		all, n := orders(b), len(cut(b))
		for _, l := range lists(firstNumbers(len(b.Legs))) {
			l = l[:n]
			want, wanted := 0, api.ErrBenchAsk
			if slices.ContainsFunc(all, func(o []int) bool { return slices.Equal(o, l) }) {
				want, wanted = firstBreak(b, l), api.OK
			}
			if want == none {
				want, wanted = 0, api.ErrNone
			}
			if n, e := bench.First(b, l); n != want || e != wanted {
				t.Errorf("First %v, %v: %d, %d, want %d, %d", b, l, n, e, want, wanted)
			}
			seen[wanted]++
			if want > 1 {
				late++
			}
		}
	}
	if seen[api.OK] < 300 || seen[api.ErrNone] < 300 || seen[api.ErrBenchAsk] < 300 || late < 100 {
		t.Errorf("the errors were %v, %d breaks late", seen, late)
	}
}

func firstNumbers(n int) []int {
	var l []int
	for i := range n {
		l = append(l, i)
	}
	return l
}

// P4.4, P4.5: the reference finds the same.
func TestOrdersLikeTheReference(t *testing.T) {
	seen := map[[2]bool]int{}
	apart := 0
	for _, b := range books(43, 600) {
		breaks, keeps := breaking(b, true), breaking(b, false)
		if l, e := bench.Breaks(b); !sameOrder(l, e, breaks) {
			t.Errorf("Breaks %v: %v, %d", b, l, e)
		}
		if l, e := bench.Keeps(b); !sameOrder(l, e, keeps) {
			t.Errorf("Keeps %v: %v, %d", b, l, e)
		}
		seen[[2]bool{len(breaks) > 0, len(keeps) > 0}]++
		all := wides(b)
		n, e := bench.Slack(b)
		if n != slices.Max(all) || e != api.OK {
			t.Errorf("Slack %v: %d, %d, want %d", b, n, e, slices.Max(all))
		}
		m, e := bench.Least(b)
		if m != slices.Min(all) || e != api.OK {
			t.Errorf("Least %v: %d, %d, want %d", b, m, e, slices.Min(all))
		}
		if n > m {
			apart++
		}
	}
	if seen[[2]bool{true, true}] < 50 || seen[[2]bool{true, false}] < 50 || seen[[2]bool{false, true}] < 50 || apart < 100 {
		t.Errorf("orders that break, and that keep even: %v; %d times the slacks differ", seen, apart)
	}
}

// P4.6, P4.13: the reference finds the same; with the pair that is told no order breaks, with no pair before it this is so.
func TestTheTie(t *testing.T) {
	found, several, needless := 0, 0, 0
	for _, b := range books(44, 1500) {
		all := ties(b)
		first, then, e := bench.Tie(b)
		if len(all) == 0 {
			if first != 0 || then != 0 || e != api.ErrNone {
				t.Errorf("Tie %v: %d, %d, %d, want none", b, first, then, e)
			}
			if len(breaking(b, true)) == 0 {
				needless++
			}
			continue
		}
		if pair(first, then) != all[0] || e != api.OK {
			t.Errorf("Tie %v: %d, %d, %d, want %v", b, first, then, e, all)
		}
		found++
		if len(all) > 1 {
			several++
		}
		// A book that has as many pairs as it can have, or that has a list no more, is not one that can be asked.
		if tied := withPair(b, pair(first, then)); bench.Check(tied) == api.OK {
			_, e := bench.Breaks(tied)
			_, f := bench.Keeps(tied)
			if n, _ := bench.Slack(tied); e != api.ErrNone || f != api.OK || n > b.Slack {
				t.Errorf("Tie %v: %d, %d, but with it %d, %d, %d", b, first, then, e, f, n)
			}
		}
	}
	if found < 100 || several < 50 || needless < 100 {
		t.Errorf("%d ties, of %d several, %d times none was needed", found, several, needless)
	}
}

// P4.8: in each order the legs at each bench are even within what is told, and at its end differ by what is told; if no order breaks, none does.
func TestAsManyLeftOnesAsRightOnes(t *testing.T) {
	even := 0
	for _, b := range books(45, 300) {
		slack, _ := bench.Slack(b)
		_, none := bench.Breaks(b)
		if none == api.ErrNone {
			even++
		}
		for _, order := range orders(b) {
			for place := range order {
				if n := differ(b, order[:place+1]); n > slack || none == api.ErrNone && n > b.Slack {
					t.Errorf("Slack %v: %d, but %d behind %v", b, slack, n, order[:place+1])
				}
			}
			for at := range b.Benches {
				lefts, rights := counts(b, order, at)
				if n, _ := bench.Over(b, at); n != lefts-rights {
					t.Errorf("Over %v, %d: %d, but %d and %d", b, at, n, lefts, rights)
				}
			}
			if _, e := bench.First(b, order); none == api.ErrNone && e != api.ErrNone {
				t.Errorf("%v: no order breaks, but %v does", b, order)
			}
		}
	}
	if even < 30 {
		t.Errorf("%d times no order broke", even)
	}
}

// P4.9: the order that is told to break does at the place that is told, and none before it; the one that keeps even does, and none before it.
func TestTheFirstOrders(t *testing.T) {
	later := 0
	for _, b := range books(46, 500) {
		breaks, e := bench.Breaks(b)
		keeps, f := bench.Keeps(b)
		if e == api.OK {
			place, g := bench.First(b, breaks)
			if g != api.OK || differ(b, breaks[:place+1]) <= b.Slack || differ(b, breaks[:place]) > b.Slack {
				t.Errorf("First %v, %v: %d, %d", b, breaks, place, g)
			}
		}
		if _, g := bench.First(b, keeps); f == api.OK && g != api.ErrNone {
			t.Errorf("Keeps %v: %v, but %d", b, keeps, g)
		}
		for _, order := range orders(b) {
			_, g := bench.First(b, order)
			if g == api.OK && (e != api.OK || slices.Compare(order, breaks) < 0) {
				t.Errorf("Breaks %v: %v, %d, but %v", b, breaks, e, order)
			}
			if g == api.ErrNone && (f != api.OK || slices.Compare(order, keeps) < 0) {
				t.Errorf("Keeps %v: %v, %d, but %v", b, keeps, f, order)
			}
		}
		if e == api.OK && f == api.OK && slices.Compare(keeps, breaks) < 0 {
			later++
		}
	}
	if later < 20 {
		t.Errorf("%d times an order kept even before one broke", later)
	}
}

// P4.10: with the slack that is told no order breaks, with one less one does; with the lesser one some order keeps even, with one less none does.
func TestTheLeastSlack(t *testing.T) {
	asked := 0
	for _, b := range books(47, 300) {
		n, _ := bench.Slack(b)
		m, _ := bench.Least(b)
		if m > n {
			t.Errorf("%v: Slack %d, Least %d", b, n, m)
		}
		for s := range api.BenchSlack + 1 {
			with := changed(b, slack(s))
			_, breaks := bench.Breaks(with)
			_, keeps := bench.Keeps(with)
			if (breaks == api.ErrNone) != (s >= n) || (keeps == api.OK) != (s >= m) {
				t.Errorf("%v: Slack %d, Least %d, but with %d: %d, %d", b, n, m, s, breaks, keeps)
			}
			if k, _ := bench.Slack(with); k != n {
				t.Errorf("%v: Slack %d, but with %d: %d", b, n, s, k)
			}
			if k, _ := bench.Least(with); k != m {
				t.Errorf("%v: Least %d, but with %d: %d", b, m, s, k)
			}
		}
		if n > m {
			asked++
		}
	}
	if asked < 50 {
		t.Errorf("%d times the slacks differ", asked)
	}
}

// P4.11: with one pair more there are no more orders: if none broke, none does; if none kept even, none does.
func TestOnePairMore(t *testing.T) {
	r := rand.New(rand.NewPCG(48, 4))
	fewer := 0
	for _, b := range books(48, 600) {
		p := pair(r.IntN(len(b.Legs)), r.IntN(len(b.Legs)))
		with := withPair(b, p)
		if bench.Check(with) != api.OK {
			continue
		}
		for _, order := range lists(cut(b)) {
			n, e := bench.First(b, order)
			m, f := bench.First(with, order)
			if f != api.ErrBenchAsk && (n != m || e != f) {
				t.Errorf("First %v, %v: %d, %d, with %v %d, %d", b, order, n, e, p, m, f)
			}
			if e != f {
				fewer++
			}
		}
		_, e := bench.Breaks(b)
		if _, f := bench.Breaks(with); e == api.ErrNone && f != api.ErrNone {
			t.Errorf("Breaks %v: none, with %v %d", b, p, f)
		}
		_, e = bench.Keeps(b)
		if _, f := bench.Keeps(with); e == api.ErrNone && f != api.ErrNone {
			t.Errorf("Keeps %v: none, with %v %d", b, p, f)
		}
		n, _ := bench.Slack(b)
		m, _ := bench.Least(b)
		more, _ := bench.Slack(with)
		less, _ := bench.Least(with)
		if more > n || less < m {
			t.Errorf("%v: Slack %d, Least %d, with %v %d, %d", b, n, m, p, more, less)
		}
	}
	if fewer < 300 {
		t.Errorf("%d orders were none with one pair more", fewer)
	}
}

// mirrored returns a book with right legs for left ones, and left ones for right ones.
func mirrored(b api.BenchBook) api.BenchBook {
	return changed(b, func(b *api.BenchBook) {
		for n := range b.Legs {
			b.Legs[n].Left = !b.Legs[n].Left
		}
	})
}

// P4.12: if left legs were right ones, and right ones left, the same would be told, but for what is over.
func TestMirrored(t *testing.T) {
	r := rand.New(rand.NewPCG(49, 4))
	over := 0
	for _, b := range books(49, 400) {
		all := orders(b)
		order := all[r.IntN(len(all))]
		for at := range b.Benches {
			one, other := ask(b, at, order), ask(mirrored(b), at, order)
			if one.over != -other.over {
				t.Errorf("Over %v, %d: %d, mirrored %d", b, at, one.over, other.over)
			}
			if one.over != 0 {
				over++
			}
			one.over, other.over = 0, 0
			if !reflect.DeepEqual(one, other) {
				t.Errorf("%v, %v: %v, mirrored %v", b, order, one, other)
			}
		}
	}
	if over < 100 {
		t.Errorf("%d times one side was over", over)
	}
}
