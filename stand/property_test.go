package stand_test

import (
	"slices"
	"testing"

	"skewbald/api"
	"skewbald/stand"
)

// or returns a number, or -1 if there is none.
func or(n int, e api.Errno) int {
	if e == api.ErrNone && n == 0 {
		return -1
	}
	return n
}

// asked returns some weights, and all leans, of a book.
func asked(b api.StandBook) (weights, leans []int) {
	for lean := -b.Lean; lean <= b.Lean; lean++ {
		leans = append(leans, lean)
	}
	return []int{1, (1 + b.Limit) / 2, b.Limit}, leans
}

// P2.1, P2.7: the reference finds the same.
func TestTrialsLikeTheReference(t *testing.T) {
	right := 0
	for _, b := range books(21, 300) {
		want := wrong(b)
		if l, e := stand.Wrong(b); !slices.Equal(l, want) || e != api.OK {
			t.Errorf("Wrong %v: %v, %d, want %v", b, l, e, want)
		}
		if is, e := stand.Right(b); is != (len(want) == 0) || e != api.OK {
			t.Errorf("Right %v: %v, %d, want %v", b, is, e, want)
		}
		if len(want) == 0 {
			right++
		}
	}
	if right < 100 || right > 280 {
		t.Errorf("%d of 300 books can be true", right)
	}
}

// P2.2 to P2.4: the reference finds the same.
func TestChildrenLikeTheReference(t *testing.T) {
	var counts [3]int
	for _, b := range trueBooks(22, 150) {
		weights, leans := asked(b)
		for _, weight := range weights {
			for _, lean := range leans {
				want := tips(b, weight, lean)
				counts[want]++
				if n, e := stand.Tips(b, weight, lean); n != want || e != api.OK {
					t.Errorf("Tips %v, %d, %d: %d, %d, want %d", b, weight, lean, n, e, want)
				}
				low := margin(b, weight, lean)
				if r, e := stand.Margin(b, weight, lean); r != low || e != api.OK {
					t.Errorf("Margin %v, %d, %d: %v, %d, want %v", b, weight, lean, r, e, low)
				}
			}
			fine := safe(b, weight)
			if is, e := stand.Safe(b, weight); is != fine || e != api.OK {
				t.Errorf("Safe %v, %d: %v, %d", b, weight, is, e)
			}
			want, ok := room(b, weight)
			if s, e := stand.Room(b, weight); s != want || ok != (e == api.OK) || ok == (e == api.ErrNone) {
				t.Errorf("Room %v, %d: %v, %d, want %v, %v", b, weight, s, e, want, ok)
			}
		}
	}
	if slices.Min(counts[:]) < 50 {
		t.Errorf("the answers of Tips were %v", counts)
	}
}

// P2.3, P2.5, P2.6: the reference finds the same.
func TestSafetyLikeTheReference(t *testing.T) {
	counts := map[bool]int{}
	for _, b := range trueBooks(23, 120) {
		want := least(b)
		if n, e := stand.Least(b); or(n, e) != want || (e == api.OK) != (want >= 0) {
			t.Errorf("Least %v: %d, %d, want %d", b, n, e, want)
		}
		want = wider(b)
		if n, e := stand.Wider(b); or(n, e) != want || (e == api.OK) != (want >= 0) {
			t.Errorf("Wider %v: %d, %d, want %d", b, n, e, want)
		}
		for _, along := range []int{-60, -b.Back, -b.Back / 2, 1, b.Front - 1, 60} {
			want = lead(b, along)
			if n, e := stand.Lead(b, along); or(n, e) != want || (e == api.OK) != (want >= 0) {
				t.Errorf("Lead %v, %d: %d, %d, want %d", b, along, n, e, want)
			}
			counts[want > 0]++
		}
	}
	if counts[true] < 40 {
		t.Errorf("lead was told %v", counts)
	}
}

// P2.9: what is told to be safe does not tip in any truth, and no truth has a lesser margin than the one that is told.
func TestSafeForEveryChild(t *testing.T) {
	safes := 0
	for _, b := range append(trueBooks(24, 60), example(), example(stood), example(rocking), beam()) {
		if l, e := stand.Wrong(b); len(l) != 0 || e != api.OK {
			t.Errorf("Wrong %v: %v, %d", b, l, e)
		}
		all := truths(b)
		for weight := 1; weight <= b.Limit; weight++ {
			if is, _ := stand.Safe(b, weight); is {
				safes++
				if !safeWith(b, all, weight, 0, 0) {
					t.Errorf("Safe %v, %d", b, weight)
				}
			}
			r, _ := stand.Margin(b, weight, -b.Lean)
			for _, truth := range all {
				if top, bottom := marginIn(b, truth, weight, -b.Lean, 0, 0); r.Top*bottom > top*r.Bottom {
					t.Errorf("Margin %v, %d: %v, but %d of %d in %v", b, weight, r, top, bottom, truth)
				}
			}
		}
	}
	if safes < 100 {
		t.Errorf("%d were safe", safes)
	}
}

// P2.10: for each weight that is less than the least one the horse is safe; for this one it can tip.
func TestTheLeastWeight(t *testing.T) {
	found := 0
	for _, b := range append(trueBooks(25, 150), example(), example(stood), example(rocking), beam()) {
		n, e := stand.Least(b)
		if e != api.OK {
			n = b.Limit + 1
		}
		for weight := 1; weight < n; weight++ {
			if is, _ := stand.Safe(b, weight); !is {
				t.Errorf("Least %v: %d, %d, but %d is not safe", b, n, e, weight)
			}
		}
		if e != api.OK {
			continue
		}
		found++
		most := 0
		for lean := -b.Lean; lean <= b.Lean; lean++ {
			answer, _ := stand.Tips(b, n, lean)
			most = max(most, answer)
		}
		if is, _ := stand.Safe(b, n); is || most == 0 {
			t.Errorf("Least %v: %d, for which it is safe", b, n)
		}
	}
	if found < 30 {
		t.Errorf("%d had a least weight", found)
	}
}

// turned returns a book of the horse that is turned around.
func turned(b api.StandBook) api.StandBook {
	c := clone(b)
	c.Front, c.Back, c.Along = b.Back, b.Front, -b.Along
	for i := range c.Parts {
		c.Parts[i].Along = -b.Parts[i].Along
	}
	for i := range c.Trials {
		c.Trials[i].Lean = -b.Trials[i].Lean
	}
	return c
}

// P2.11: the horse can tip just if the margin is below 0, and what is told of it is told of the one that is turned around.
func TestTurnedAround(t *testing.T) {
	for _, b := range append(books(26, 200), example(), example(stood), example(torn), example(rocking)) {
		c := turned(b)
		weights, leans := asked(b)
		for _, weight := range weights {
			for _, lean := range leans {
				one, other := ask(b, weight, lean, lean), ask(c, weight, -lean, -lean)
				if one.right && (one.tips > 0) != (one.margin.Top < 0) {
					t.Errorf("Tips %v, %d, %d: %d, Margin %v", b, weight, lean, one.tips, one.margin)
				}
				other.room = to(-other.room.High, -other.room.Low)
				if !slices.Equal(one.wrong, other.wrong) {
					t.Errorf("Wrong %v: %v, turned %v", b, one.wrong, other.wrong)
				}
				if !sameAnswers(one, other) {
					t.Errorf("%v, %d, %d: %v, turned %v", b, weight, lean, one, other)
				}
			}
		}
	}
}

// P2.12: with one trial more that can be right, what is told is no worse, and what was sure still is.
func TestOneTrialMore(t *testing.T) {
	better := 0
	for _, b := range trueBooks(27, 200) {
		if len(b.Trials) == 0 {
			continue
		}
		before := without(b, []int{len(b.Trials) - 1})
		weights, leans := asked(b)
		for _, weight := range weights {
			for _, lean := range leans {
				one, other := ask(before, weight, lean, lean), ask(b, weight, lean, lean)
				if one.tips != 1 && one.tips != other.tips || one.margin.Top*other.margin.Bottom > other.margin.Top*one.margin.Bottom {
					t.Errorf("%v, %d, %d: before %v, then %v", b, weight, lean, one, other)
				}
				if one.safe && !other.safe || one.k == api.OK && (other.k != api.OK || other.room.Low > one.room.Low || other.room.High < one.room.High) {
					t.Errorf("%v, %d, %d: before %v, then %v", b, weight, lean, one, other)
				}
				if one.margin != other.margin {
					better++
				}
			}
		}
	}
	if better < 20 {
		t.Errorf("%d margins were greater", better)
	}
}

// loaded returns a book of the horse with lead as one part more, as far as there can be one.
func loaded(b api.StandBook, lead, along int) api.StandBook {
	c := clone(b)
	if lead > 0 {
		c.Parts = append(c.Parts, part(just(lead), along, 0))
	}
	return c
}

// wantSafe checks whether a horse is safe for all weights.
func wantSafe(t *testing.T, what string, b api.StandBook, want bool) {
	t.Helper()
	if _, e := stand.Least(b); (e == api.ErrNone) != want || (e == api.OK) == want {
		t.Errorf("%s: Least %v: %d", what, b, e)
	}
}

// P2.13: with as much lead, or as wide feet, as is told the horse is safe for all weights, with less it is not.
func TestLeadAndWiderFeet(t *testing.T) {
	found := 0
	for _, b := range append(books(28, 200), example(), example(rocking), beam()) {
		b.Trials = nil
		n, e := stand.Wider(b)
		for more := range 21 {
			c := clone(b)
			c.Front, c.Back = b.Front+more, b.Back+more
			wantSafe(t, "wider", c, e == api.OK && more >= n)
		}
		if len(b.Parts) == api.StandParts {
			continue
		}
		n, e = stand.Lead(b, b.Front/2)
		if e == api.OK {
			found++
			wantSafe(t, "lead", loaded(b, n, b.Front/2), true)
		} else {
			n = 100
		}
		for less := range n {
			wantSafe(t, "less lead", loaded(b, less, b.Front/2), false)
		}
	}
	if found < 20 {
		t.Errorf("lead was told for %d", found)
	}
}

// P2.13: wider feet never make a horse tip that did not.
func TestWiderFeetDoNotTip(t *testing.T) {
	for _, b := range books(29, 200) {
		b.Trials = nil
		c := clone(b)
		c.Front, c.Back = b.Front+1, b.Back+1
		weights, leans := asked(b)
		for _, weight := range weights {
			for _, lean := range leans {
				one, _ := stand.Tips(b, weight, lean)
				if other, _ := stand.Tips(c, weight, lean); other > one {
					t.Errorf("Tips %v, %d, %d: %d, wider %d", b, weight, lean, one, other)
				}
			}
		}
	}
}

// P2.14: without the trials that must be wrong the book can be true; without fewer, or those of a list that comes before, it cannot.
func TestTheFewestTrials(t *testing.T) {
	several := 0
	for _, b := range append(books(30, 400), example(torn)) {
		told, _ := stand.Wrong(b)
		several += len(told) / 2
		for _, l := range lists(len(b.Trials)) {
			is, e := stand.Right(without(b, l))
			if same := slices.Equal(l, told); is != same || e != api.OK {
				t.Errorf("Wrong %v: %v, but Right without %v: %v, %d", b, told, l, is, e)
			}
			if slices.Equal(l, told) {
				break
			}
		}
	}
	if several < 10 {
		t.Errorf("%d times several were wrong", several)
	}
}
