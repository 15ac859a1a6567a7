package plank_test

import (
	"slices"
	"testing"

	"skewbald/api"
	"skewbald/plank"
)

// eachPlace calls f for each part at each inch of each plank at which it lies, in many books.
func eachPlace(t *testing.T, f func(b api.PlankBook, p, s, at int)) {
	t.Helper()
	for _, b := range append(books(9, 150, 16, 5), example(), hidden()) {
		for p, w := range b.Planks {
			for s, shape := range b.Parts {
				for at := 0; at+shape.Long <= w.Long; at++ {
					f(b, p, s, at)
				}
			}
		}
	}
}

// P1.9, P1.1: what surely can be cut is sound in each truth, what cannot be is sound in none.
func TestNoKnotIsWhereAJointIs(t *testing.T) {
	seen := map[int]int{}
	eachPlace(t, func(b api.PlankBook, p, s, at int) {
		answer, e := plank.Can(b, p, s, at)
		seen[answer]++
		if e != api.OK || answer != canBe(b.Planks[p], b.Parts[s], at) {
			t.Errorf("Can %v, %d, %d, %d: %d, %d", b, p, s, at, answer, e)
		}
		for _, truth := range truths(b.Planks[p]) {
			sound := false
			for _, turned := range lyings(b.Parts[s]) {
				sound = sound || soundIn(truth, b.Parts[s], at, turned)
			}
			if answer == 2 && !sound || answer == 0 && sound {
				t.Fatalf("Can %v, %d, %d, %d: %d, but in %v %v", b, p, s, at, answer, truth, sound)
			}
		}
	})
	if seen[0] == 0 || seen[1] == 0 || seen[2] == 0 {
		t.Errorf("not all answers were seen: %v", seen)
	}
}

// P1.10: of what perhaps can be cut a way to lie is sound in one truth, and not in another one.
func TestSoundInOneTruthAndNotInAnother(t *testing.T) {
	eachPlace(t, func(b api.PlankBook, p, s, at int) {
		mixed := false
		for _, turned := range lyings(b.Parts[s]) {
			one, other := false, false
			for _, truth := range truths(b.Planks[p]) {
				sound := soundIn(truth, b.Parts[s], at, turned)
				one, other = one || sound, other || !sound
			}
			mixed = mixed || one && other
		}
		if answer, _ := plank.Can(b, p, s, at); answer == 1 && !mixed {
			t.Errorf("Can %v, %d, %d, %d: 1, but in no truth otherwise", b, p, s, at)
		}
	})
}

// P1.2, P1.3: the spots are those where Can says 2, and parts are laid on the first ones of them.
func TestSpotsAndLayByTrial(t *testing.T) {
	for _, b := range books(3, 120, 12, 5) {
		r := newReference(b)
		for p := range b.Planks {
			for s := range b.Parts {
				if l, e := plank.Spots(b, p, s); !slices.Equal(l, r.spots[p][s]) || e != api.OK {
					t.Errorf("Spots %v, %d, %d: %v, %d", b, p, s, l, e)
				}
			}
			for _, parts := range subsets(len(b.Parts)) {
				want, ok := r.lay(p, parts, nil)
				l, e := plank.Lay(b, p, parts)
				if !slices.Equal(l, want) || (e == api.OK) != ok || !ok && e != api.ErrNone {
					t.Errorf("Lay %v, %d, %v: %v, %d", b, p, parts, l, e)
				}
			}
		}
	}
}

// P1.11, P1.4: from the planks that are told all parts can be cut, from fewer they cannot, nor from as many that come before.
func TestTheFewestPlanks(t *testing.T) {
	sizes := map[int]int{}
	for _, b := range books(11, 300, 12, 5) {
		r := newReference(b)
		want, ok := r.fewest()
		l, e := plank.Fewest(b)
		sizes[len(l)]++
		if !slices.Equal(l, want) || (e == api.OK) != ok || !ok && e != api.ErrNone {
			t.Errorf("Fewest %v: %v, %d", b, l, e)
		}
		if most, _ := plank.Most(b); ok != (len(most) == len(b.Parts)) {
			t.Errorf("Most %v: %v, but Fewest %v", b, most, want)
		}
	}
	if sizes[0] == 0 || sizes[1] == 0 || sizes[2] == 0 || sizes[3] == 0 {
		t.Errorf("not all numbers of planks were seen: %v", sizes)
	}
}

// P1.12, P1.6: the parts before the one that is told can be cut, with it they cannot; if there is none, all planks are enough.
func TestThePartWithoutWood(t *testing.T) {
	for _, b := range books(12, 300, 10, 5) {
		want, ok := newReference(b).lacks()
		n, e := plank.Lacks(b)
		if n != want || (e == api.OK) != ok || !ok && e != api.ErrNone {
			t.Errorf("Lacks %v: %d, %d", b, n, e)
		}
		if _, f := plank.Fewest(b); (e == api.ErrNone) != (f == api.OK) {
			t.Errorf("Lacks %v: %d, but Fewest %d", b, e, f)
		}
	}
}

// P1.5: of the most parts that can be cut the first ones are told.
func TestMostByTrial(t *testing.T) {
	for _, b := range books(5, 300, 10, 5) {
		want := newReference(b).most()
		if l, e := plank.Most(b); !slices.Equal(l, want) || e != api.OK {
			t.Errorf("Most %v: %v, %d, not %v", b, l, e, want)
		}
	}
}

// P1.7: the knot that is told leaves the most parts at the worst, and is the first one that does.
func TestLookByTrial(t *testing.T) {
	later := 0
	for _, b := range books(7, 150, 8, 4) {
		p, k, ok := newReference(b).look()
		plank, knot, e := plank.Look(b)
		if plank != p || knot != k || (e == api.OK) != ok || !ok && e != api.ErrNone {
			t.Errorf("Look %v: %d, %d, %d, not %d, %d", b, plank, knot, e, p, k)
		}
		if p != 0 || k != 0 {
			later++
		}
	}
	if later == 0 {
		t.Error("no knot but the first one was the best")
	}
}

// wantNoLess checks that all that surely could be cut of a book still can of another one.
func wantNoLess(t *testing.T, what string, b, c api.PlankBook) {
	t.Helper()
	for p := range b.Planks {
		for s := range b.Parts {
			spots, _ := plank.Spots(b, p, s)
			still, e := plank.Spots(c, p, s)
			for _, at := range spots {
				if e != api.OK || !slices.Contains(still, at) {
					t.Errorf("%s: %v, %d, %d: %v, then %v in %v", what, b, p, s, spots, still, c)
				}
			}
		}
	}
	one, _ := plank.Most(b)
	other, _ := plank.Most(c)
	planks, e := plank.Fewest(b)
	fewer, f := plank.Fewest(c)
	if len(other) < len(one) || e == api.OK && (f != api.OK || len(fewer) > len(planks)) {
		t.Errorf("%s: %v: %v, %v; %v: %v, %v", what, b, one, planks, c, other, fewer)
	}
}

// P1.13: with more known of a knot, a longer plank, or a joint less, all that surely could be cut still can.
func TestMoreIsKnown(t *testing.T) {
	for _, b := range append(books(13, 100, 15, 4), example(), hidden()) {
		for p := range b.Planks {
			longer := clone(b)
			longer.Planks[p].Long++
			wantNoLess(t, "a longer plank", b, longer)
			for k, span := range b.Planks[p].Knots {
				for _, known := range []api.Span{just(span.Low), just(span.High), to(min(span.Low+1, span.High), span.High), to(span.Low, max(span.High-1, span.Low))} {
					c := clone(b)
					c.Planks[p].Knots[k] = known
					wantNoLess(t, "a knot that is known", b, c)
				}
			}
		}
		for s := range b.Parts {
			for j := range b.Parts[s].Joints {
				c := clone(b)
				c.Parts[s].Joints = slices.Delete(c.Parts[s].Joints, j, j+1)
				wantNoLess(t, "a joint less", b, c)
			}
		}
	}
}

// turnedBook turns all planks of a book end for end.
func turnedBook(b api.PlankBook) api.PlankBook {
	c := clone(b)
	for _, w := range c.Planks {
		for k, span := range w.Knots {
			w.Knots[k] = to(w.Long-1-span.High, w.Long-1-span.Low)
		}
	}
	return c
}

// P1.14: a part that turns has the same spots on a plank that is turned, counted from its other end.
func TestThePlankIsTurned(t *testing.T) {
	for _, b := range append(books(14, 150, 16, 5), example()) {
		c := turnedBook(b)
		for p, w := range b.Planks {
			for s, shape := range b.Parts {
				if !shape.Turns {
					continue
				}
				var want []int
				spots, _ := plank.Spots(b, p, s)
				for _, at := range slices.Backward(spots) {
					want = append(want, w.Long-shape.Long-at)
				}
				if l, e := plank.Spots(c, p, s); !slices.Equal(l, want) || e != api.OK {
					t.Errorf("Spots %v, %d, %d: %v, turned %v, %d", b, p, s, spots, l, e)
				}
			}
		}
	}
}
