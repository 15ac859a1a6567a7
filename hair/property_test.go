package hair_test

import (
	"math/rand/v2"
	"slices"
	"testing"

	"skewbald/api"
	"skewbald/hair"
)

// P6.1: the reference finds the same.
func TestDyesLikeTheReference(t *testing.T) {
	found, not, dyed := 0, 0, 0
	for _, b := range append(books(61, 800, 300000), wideBooks(61, 40)...) {
		in := truths(weightless(b))
		for horse := range b.Horses {
			for mane := range b.Hanks {
				for tail := range b.Hanks {
					want, is := steps(b, in, horse, mane, tail)
					wanted := api.OK
					if is {
						found++
					} else {
						not++
						wanted = api.ErrNone
					}
					if mane != tail && want[0] > 0 && want[1] > 0 {
						dyed++
					}
					if m, n, e := hair.Dyes(b, horse, mane, tail); m != want[0] || n != want[1] || e != wanted {
						t.Errorf("Dyes %v, %d, %d, %d: %d, %d, %d, want %v", b, horse, mane, tail, m, n, e, want)
					}
				}
			}
		}
	}
	if min(found, not, dyed) < 100 {
		t.Errorf("%d times there were steps, %d times for both parts, %d times there were none", found, dyed, not)
	}
}

// weightless returns a book in whose truths only shades differ.
func weightless(b api.HairBook) api.HairBook {
	return changed(b, func(b *api.HairBook) {
		for hank := range b.Hanks {
			b.Hanks[hank].Weight = just(1)
		}
	})
}

// P6.2, P6.3: the reference finds the same.
func TestPlansLikeTheReference(t *testing.T) {
	some, none := 0, 0
	for _, b := range books(62, 150, 30000) {
		k := know(b)
		for i, plan := range plans(b) {
			want := k.works(plan)
			if is, e := hair.Works(b, plan); is != want || e != api.OK {
				t.Errorf("Works %v, %v: %v, %d", b, plan, is, e)
			}
			if !want {
				none++
				wantNoWork(t, i, b, plan)
				continue
			}
			some++
			if s, e := hair.Off(b, plan); s != k.off(plan) || e != api.OK {
				t.Errorf("Off %v, %v: %v, %d, want %v", b, plan, s, e, k.off(plan))
			}
			for hank := range b.Hanks {
				if s, e := hair.Left(b, plan, hank); s != k.left(plan, hank) || e != api.OK {
					t.Errorf("Left %v, %v, %d: %v, %d, want %v", b, plan, hank, s, e, k.left(plan, hank))
				}
			}
		}
	}
	if some < 200 || none < 200 {
		t.Errorf("%d plans surely worked, %d did not", some, none)
	}
}

// P6.4, P6.10: the reference finds the same.
func TestBestLikeTheReference(t *testing.T) {
	counts := map[string]int{}
	for _, b := range books(63, 800, 200000) {
		k := know(b)
		want, found := k.best()
		wanted := api.OK
		if !found {
			wanted = api.ErrNone
			counts["none"]++
		}
		served := k.served()
		if found && len(b.Horses) > 0 {
			counts["some"]++
			if len(served) > 1 && !slices.Equal(want, served[0]) {
				counts["a later one"]++
			}
			ties := slices.DeleteFunc(served, func(p []int) bool { return k.off(p).High != k.off(want).High })
			if len(ties) > 1 {
				counts["several"]++
			}
		}
		if l, e := hair.Best(b); !slices.Equal(l, want) || e != wanted {
			t.Errorf("Best %v: %v, %d, want %v", b, l, e, want)
		}
	}
	for _, name := range []string{"none", "some", "a later one", "several"} {
		if counts[name] < 30 {
			t.Errorf("%s: %d times", name, counts[name])
		}
	}
}

// P6.5, P6.11: the reference finds the same.
func TestLacksLikeTheReference(t *testing.T) {
	many, later := map[int]int{}, 0
	for _, b := range books(64, 600, 200000) {
		want := lacks(b)
		many[len(want)]++
		if len(want) > 0 && want[0] > 0 {
			later++
		}
		if l, e := hair.Lacks(b); !slices.Equal(l, want) || e != api.OK {
			t.Errorf("Lacks %v: %v, %d, want %v", b, l, e, want)
		}
	}
	for n := range 4 {
		if many[n] < 30 {
			t.Errorf("%d times there was no hair for %d horses", many[n], n)
		}
	}
	if later < 30 {
		t.Errorf("%d times there was hair for the first horse", later)
	}
}

// P6.6, P6.12: the reference finds the same.
func TestBuyLikeTheReference(t *testing.T) {
	counts := map[string]int{}
	for n, b := range append(books(65, 400, 2000), fullBooks(65, 150)...) {
		// Mostly a shade that is about right.
		shade := (7 * n) % (api.HairShades + 1)
		if len(b.Horses) > 0 && n%4 > 0 {
			shade = min(max(b.Horses[0].Shade-n%5, 0), api.HairShades)
		}
		want, wanted := buy(b, shade), api.OK
		switch {
		case want == none:
			want, wanted = 0, api.ErrNone
			counts["none"]++
		case want == 0:
			counts["nothing"]++
		default:
			counts["some"]++
			if len(b.Hanks) == api.HairHanks {
				counts["a fifth"]++
			}
		}
		if n, e := hair.Buy(b, shade); n != want || e != wanted {
			t.Errorf("Buy %v, %d: %d, %d, want %d", b, shade, n, e, want)
		}
	}
	for _, name := range []string{"none", "nothing", "some", "a fifth"} {
		if counts[name] < 20 {
			t.Errorf("%s: %d times", name, counts[name])
		}
	}
}

// P6.7: the reference finds the same.
func TestPerhapsLikeTheReference(t *testing.T) {
	perhaps, not, unsure := 0, 0, 0
	for _, b := range books(66, 800, 200000) {
		want := know(b).perhaps()
		_, none := hair.Best(b)
		switch {
		case !want:
			not++
		case none == api.ErrNone:
			unsure++
		default:
			perhaps++
		}
		if is, e := hair.Perhaps(b); is != want || e != api.OK {
			t.Errorf("Perhaps %v: %v, %d", b, is, e)
		}
	}
	if min(perhaps, not, unsure) < 30 {
		t.Errorf("%d times surely, %d times perhaps, %d times not", perhaps, unsure, not)
	}
}

// exactly returns the book of which one truth is known.
func exactly(b api.HairBook, t truth) api.HairBook {
	return changed(b, func(b *api.HairBook) {
		for hank := range b.Hanks {
			b.Hanks[hank].Weight, b.Hanks[hank].Shade = just(t.weights[hank]), just(t.shades[hank])
		}
	})
}

// P6.7: if all horses are surely served once all is known, they perhaps are before; and if they perhaps are, there is something to be known with which they surely are.
func TestPerhapsOnceAllIsKnown(t *testing.T) {
	r := rand.New(rand.NewPCG(73, 6))
	perhaps, not := 0, 0
	for _, b := range append(books(73, 150, 1<<40), wideBooks(73, 40)...) {
		is, e := hair.Perhaps(b)
		if e != api.OK {
			t.Errorf("Perhaps %v: %d", b, e)
		}
		for range 20 {
			if truly := anyTruth(r, b); !is && isServed(exactly(b, truly)) {
				t.Errorf("Perhaps %v: %v, but in %v all are served", b, is, truly)
			}
		}
		// The heavier all hanks are, the better.
		heavy := changed(b, func(b *api.HairBook) {
			for hank, h := range b.Hanks {
				b.Hanks[hank].Weight = just(h.Weight.High)
			}
		})
		can := slices.ContainsFunc(truths(heavy), func(truly truth) bool { return isServed(exactly(b, truly)) })
		if can != is {
			t.Errorf("Perhaps %v: %v, but once all is known %v", b, is, can)
		}
		if is {
			perhaps++
		} else {
			not++
		}
	}
	if min(perhaps, not) < 30 {
		t.Errorf("%d times perhaps, %d times not", perhaps, not)
	}
}

// dyedPlan returns the steps of all horses by a plan.
func dyedPlan(t *testing.T, b api.HairBook, plan []int) [][2]int {
	t.Helper()
	var all [][2]int
	for horse := range b.Horses {
		m, n, e := hair.Dyes(b, horse, plan[2*horse], plan[2*horse+1])
		if e != api.OK {
			t.Errorf("Dyes %v, %d by %v: %d", b, horse, plan, e)
		}
		all = append(all, [2]int{m, n})
	}
	return all
}

// P6.9: whatever hanks truly weigh, and of whatever shade they are, all is as it is told; and the ends that are told can be so.
func TestEachManeMatchesItsTail(t *testing.T) {
	r := rand.New(rand.NewPCG(67, 6))
	served := 0
	for _, b := range append(books(67, 300, 1<<40), wideBooks(67, 100)...) {
		plan, e := hair.Best(b)
		if e != api.OK || len(plan) == 0 {
			continue
		}
		served++
		dyes := dyedPlan(t, b, plan)
		off, _ := hair.Off(b, plan)
		var ends []api.Span
		for hank := range b.Hanks {
			s, _ := hair.Left(b, plan, hank)
			ends = append(ends, s)
		}
		for range 60 {
			truly := anyTruth(r, b)
			for horse, s := range dyes {
				if !truly.match(b, horse, plan[2*horse], plan[2*horse+1], s) {
					t.Errorf("by %v, dyed by %v, the parts of %d do not match in %v of %v", plan, s, horse, truly, b)
				}
			}
			for hank, n := range truly.left(b, plan) {
				if n < 0 || n < ends[hank].Low || n > ends[hank].High {
					t.Errorf("by %v %d is left of %d in %v of %v, told %v", plan, n, hank, truly, b, ends[hank])
				}
			}
			if n := truly.off(b, plan); n < off.Low || n > off.High {
				t.Errorf("by %v %d is cut off in %v of %v, told %v", plan, n, truly, b, off)
			}
		}
		for _, atMost := range []bool{false, true} {
			wantEnds(t, b, plan, ends, off, atMost)
		}
	}
	if served < 100 {
		t.Errorf("%d times all horses were served", served)
	}
}

// wantEnds checks that as much is left and cut off as is told, if all hanks weigh the least, or the most.
func wantEnds(t *testing.T, b api.HairBook, plan []int, ends []api.Span, off api.Span, atMost bool) {
	t.Helper()
	end := func(s api.Span) int { return s.Low }
	if atMost {
		end = func(s api.Span) int { return s.High }
	}
	var truly truth
	for _, h := range b.Hanks {
		truly.weights = append(truly.weights, end(h.Weight))
	}
	for hank, n := range truly.left(b, plan) {
		if n != end(ends[hank]) {
			t.Errorf("by %v %d is left of %d in %v of %v, told %v", plan, n, hank, truly, b, ends[hank])
		}
	}
	if n := truly.off(b, plan); n != end(off) {
		t.Errorf("by %v %d is cut off in %v of %v, told %v", plan, n, truly, b, off)
	}
}

// P6.10, P6.4: by no other plan that surely works less is cut off at most, and by none before it as little; if there is none no plan surely works.
func TestTheLeastIsCutOff(t *testing.T) {
	some, none := 0, 0
	for _, b := range append(books(68, 120, 1<<40), wideBooks(68, 12)...) {
		best, e := hair.Best(b)
		least, f := hair.Off(b, best)
		if (f == api.OK) != (e == api.OK) {
			t.Errorf("Best %v: %v, %d, but by it Off is %d", b, best, e, f)
		}
		for _, plan := range plans(b) {
			s, f := hair.Off(b, plan)
			if f != api.OK {
				none++
				continue
			}
			some++
			if e != api.OK || s.High < least.High || s.High == least.High && slices.Compare(plan, best) < 0 {
				t.Errorf("Best %v: %v, %d with %v, but by %v %v", b, best, e, least, plan, s)
			}
		}
	}
	if some < 1000 || none < 1000 {
		t.Errorf("%d plans surely worked, %d did not", some, none)
	}
}

// isServed reports whether all horses are surely served.
func isServed(b api.HairBook) bool {
	_, e := hair.Best(b)
	return e == api.OK
}

// P6.11, P6.5: without those that are told all others are surely served; without fewer, or those before them, they are not.
func TestTheHorsesForWhomThereIsNoHair(t *testing.T) {
	many := map[int]int{}
	for _, b := range append(books(69, 500, 1<<40), wideBooks(69, 100)...) {
		l, e := hair.Lacks(b)
		if e != api.OK || !isServed(without(b, l)) {
			t.Errorf("Lacks %v: %v, %d, but not all others are served", b, l, e)
		}
		if isServed(b) != (len(l) == 0) {
			t.Errorf("Lacks %v: %v, but all are served: %v", b, l, isServed(b))
		}
		many[len(l)]++
		for _, list := range sublists(len(b.Horses)) {
			if slices.Equal(list, l) {
				break
			}
			if isServed(without(b, list)) {
				t.Errorf("Lacks %v: %v, but without %v all are served", b, l, list)
			}
		}
	}
	for n := range 4 {
		if many[n] < 30 {
			t.Errorf("%d times there was no hair for %d horses", many[n], n)
		}
	}
}

// P6.12, P6.6: with as much as must be bought all horses are surely served, with an ounce less they are not; if nothing must be, they are without it; if nothing is enough, they are not even with the most.
func TestWhatMustBeBought(t *testing.T) {
	counts := map[string]int{}
	for _, b := range append(books(70, 150, 1<<40), wideBooks(70, 20)...) {
		if len(b.Hanks) == api.HairHanks {
			b.Hanks = b.Hanks[:api.HairHanks-1]
		}
		for shade := range api.HairShades + 1 {
			n, e := hair.Buy(b, shade)
			switch {
			case e == api.ErrNone:
				counts["none"]++
				if n != 0 || isServed(b) || isServed(bought(b, api.HairOunces, shade)) {
					t.Errorf("Buy %v, %d: %d, %d, but all are served", b, shade, n, e)
				}
			case e != api.OK || n < 0 || n > api.HairOunces:
				t.Errorf("Buy %v, %d: %d, %d", b, shade, n, e)
			case n == 0:
				counts["nothing"]++
				if !isServed(b) {
					t.Errorf("Buy %v, %d: %d, but without it not all are served", b, shade, n)
				}
			default:
				counts["some"]++
				if isServed(b) || n > 1 && isServed(bought(b, n-1, shade)) || !isServed(bought(b, n, shade)) {
					t.Errorf("Buy %v, %d: %d, but just with so much not all are served, or with less", b, shade, n)
				}
			}
		}
	}
	for _, name := range []string{"none", "nothing", "some"} {
		if counts[name] < 100 {
			t.Errorf("%s: %d times", name, counts[name])
		}
	}
}

// P6.13: with a hank more, or one step more of dye, nobody who was surely served is not, and by the same plans; if all are surely served, then perhaps, too.
func TestMoreHair(t *testing.T) {
	r := rand.New(rand.NewPCG(71, 6))
	served, more := 0, 0
	for _, b := range append(books(71, 400, 1<<40), wideBooks(71, 60)...) {
		var then []api.HairBook
		if len(b.Hanks) < api.HairHanks {
			then = append(then, changed(b, func(b *api.HairBook) { b.Hanks = append(b.Hanks, anyBook(r, 1, 3).Hanks...) }))
		}
		if b.Dark < api.HairDark {
			then = append(then, changed(b, func(b *api.HairBook) { b.Dark++ }))
		}
		for _, list := range sublists(len(b.Horses)) {
			now := without(b, list)
			plan, e := hair.Best(now)
			if is, _ := hair.Perhaps(now); e == api.OK && !is {
				t.Errorf("Perhaps %v: %v, but surely by %v", now, is, plan)
			}
			for _, c := range then {
				c = without(c, list)
				if e == api.OK && !isServed(c) {
					t.Errorf("Best %v: %v, but nothing of %v", now, plan, c)
				}
				if is, f := hair.Works(c, plan); e == api.OK && (!is || f != api.OK) {
					t.Errorf("Works %v, %v: %v, %d, but by %v it does", c, plan, is, f, now)
				}
				if e == api.OK {
					served++
				} else if isServed(c) {
					more++
				}
			}
		}
	}
	if served < 300 || more < 30 {
		t.Errorf("%d times all were served, %d times only with more", served, more)
	}
}

// P6.14: both parts of one hank match each other, dyed alike: they are, whatever Match is.
func TestBothPartsOfOneHank(t *testing.T) {
	found, not := 0, 0
	for _, b := range append(books(72, 300, 1<<40), wideBooks(72, 60)...) {
		for horse := range b.Horses {
			for hank := range b.Hanks {
				m, n, e := hair.Dyes(b, horse, hank, hank)
				if m != n {
					t.Errorf("Dyes %v, %d, %d: %d, %d", b, horse, hank, m, n)
				}
				for match := range api.HairNear + 1 {
					c := changed(b, matching(match))
					if k, l, f := hair.Dyes(c, horse, hank, hank); k != m || l != n || f != e {
						t.Errorf("Dyes %v, %d, %d: %d, %d, %d, but with Match %d %d, %d, %d", b, horse, hank, m, n, e, match, k, l, f)
					}
				}
				if e == api.OK {
					found++
				} else {
					not++
				}
			}
		}
	}
	if found < 200 || not < 200 {
		t.Errorf("%d times there were steps, %d times not", found, not)
	}
}
