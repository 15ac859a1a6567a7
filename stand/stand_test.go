package stand_test

import (
	"math"
	"reflect"
	"slices"
	"testing"

	"skewbald/api"
	"skewbald/stand"
)

func to(low, high int) api.Span { return api.Span{Low: low, High: high} }

func just(n int) api.Span { return to(n, n) }

func part(weight api.Span, along, high int) api.StandPart {
	return api.StandPart{Weight: weight, Along: along, High: high}
}

func trial(weight, lean int, tipped bool) api.StandTrial {
	return api.StandTrial{Weight: weight, Lean: lean, Tipped: tipped}
}

func ratio(top, bottom int) api.StandRatio { return api.StandRatio{Top: top, Bottom: bottom} }

type change func(b *api.StandBook)

// example is the book of the chapter's examples, changed.
func example(changes ...change) api.StandBook {
	b := api.StandBook{
		Kind: api.StandFeet, Front: 10, Back: 4,
		Parts: []api.StandPart{part(to(20, 22), 0, 30), part(to(4, 5), 15, 40)},
		Along: -4, High: 36, Lean: 8, Limit: 30,
	}
	for _, c := range changes {
		c(&b)
	}
	return b
}

// beam is the horse of 10 pounds in the middle between feet that are 5 inches from it, changed.
func beam(changes ...change) api.StandBook {
	b := api.StandBook{Front: 5, Back: 5, Parts: []api.StandPart{part(just(10), 0, 0)}, Lean: 12, Limit: 10}
	for _, c := range changes {
		c(&b)
	}
	return b
}

func tried(trials ...api.StandTrial) change {
	return func(b *api.StandBook) { b.Trials = trials }
}

func onBow(radius, foot int) change {
	return func(b *api.StandBook) { b.Kind, b.Radius, b.Front, b.Back = api.StandBow, radius, foot, foot }
}

func parts(p ...api.StandPart) change {
	return func(b *api.StandBook) { b.Parts = p }
}

// stood, torn and rocking are the changes of the chapter's examples.
var (
	stood   = tried(trial(21, -8, false))
	torn    = tried(trial(21, -8, false), trial(20, -8, true))
	rocking = onBow(60, 12)
)

// wantAskErrors checks that all functions that have a question return an error and zero values.
func wantAskErrors(t *testing.T, name string, b api.StandBook, weight, lean, along int, want api.Errno) {
	t.Helper()
	if n, e := stand.Tips(b, weight, lean); n != 0 || e != want {
		t.Errorf("%s: Tips %d, %d: %d, %d", name, weight, lean, n, e)
	}
	if r, e := stand.Margin(b, weight, lean); r != ratio(0, 0) || e != want {
		t.Errorf("%s: Margin %d, %d: %v, %d", name, weight, lean, r, e)
	}
	if is, e := stand.Safe(b, weight); is || e != want {
		t.Errorf("%s: Safe %d: %v, %d", name, weight, is, e)
	}
	if s, e := stand.Room(b, weight); s != just(0) || e != want {
		t.Errorf("%s: Room %d: %v, %d", name, weight, s, e)
	}
	if n, e := stand.Lead(b, along); n != 0 || e != want {
		t.Errorf("%s: Lead %d: %d, %d", name, along, n, e)
	}
}

// wantBookErrors checks that Least and Wider return an error and zero values.
func wantBookErrors(t *testing.T, name string, b api.StandBook, want api.Errno) {
	t.Helper()
	if n, e := stand.Least(b); n != 0 || e != want {
		t.Errorf("%s: Least: %d, %d", name, n, e)
	}
	if n, e := stand.Wider(b); n != 0 || e != want {
		t.Errorf("%s: Wider: %d, %d", name, n, e)
	}
}

// P2.1, P1, R2: a book that is not valid is the first error of all functions, even with wrong questions.
func TestWrongBooks(t *testing.T) {
	set := func(p *int, n int) { *p = n }
	for name, c := range map[string]change{
		"nothing":               func(b *api.StandBook) { *b = api.StandBook{} },
		"the kind 2":            func(b *api.StandBook) { b.Kind = 2 },
		"the kind -1":           func(b *api.StandBook) { b.Kind = -1 },
		"the kind 2, a radius":  func(b *api.StandBook) { b.Kind, b.Radius = 2, 60 },
		"Front 0":               func(b *api.StandBook) { set(&b.Front, 0) },
		"Front 61":              func(b *api.StandBook) { set(&b.Front, 61) },
		"Back 0":                func(b *api.StandBook) { set(&b.Back, 0) },
		"Back 61":               func(b *api.StandBook) { set(&b.Back, 61) },
		"Back below 0":          func(b *api.StandBook) { set(&b.Back, math.MinInt) },
		"feet with a radius":    func(b *api.StandBook) { set(&b.Radius, 1) },
		"feet, a radius of -1":  func(b *api.StandBook) { set(&b.Radius, -1) },
		"a bow of no radius":    onBow(0, 5),
		"a bow, a radius of -1": onBow(-1, 5),
		"a bow of 121":          onBow(121, 5),
		"a bow with Front 61":   onBow(60, 61),
		"no parts":              parts(),
		"five parts":            parts(slices.Repeat([]api.StandPart{part(just(1), 0, 0)}, 5)...),
		"a weight of 0":         parts(part(to(0, 2), 0, 0)),
		"a weight below 0":      parts(part(to(-3, 1), 0, 0)),
		"a weight of 100":       parts(part(to(99, 100), 0, 0)),
		"5 apart":               parts(part(to(20, 25), 0, 0)),
		"a span of nothing":     parts(part(to(21, 20), 0, 0)),
		"the widest span":       parts(part(to(math.MinInt, math.MaxInt), 0, 0)),
		"the narrowest span":    parts(part(to(math.MaxInt, math.MinInt), 0, 0)),
		"a part far back":       parts(part(just(1), 0, 0), part(just(1), -61, 0)),
		"a part far in front":   parts(part(just(1), 61, 0)),
		"a part below 0":        parts(part(just(1), 0, -1)),
		"a part too high":       parts(part(just(1), 0, 0), part(just(1), 0, 0), part(just(1), 0, 61)),
		"Along -61":             func(b *api.StandBook) { set(&b.Along, -61) },
		"Along 61":              func(b *api.StandBook) { set(&b.Along, 61) },
		"High -1":               func(b *api.StandBook) { set(&b.High, -1) },
		"High 61":               func(b *api.StandBook) { set(&b.High, 61) },
		"Lean -1":               func(b *api.StandBook) { set(&b.Lean, -1) },
		"Lean 13":               func(b *api.StandBook) { set(&b.Lean, 13) },
		"the least Lean":        func(b *api.StandBook) { set(&b.Lean, math.MinInt) },
		"Limit 0":               func(b *api.StandBook) { set(&b.Limit, 0) },
		"Limit 61":              func(b *api.StandBook) { set(&b.Limit, 61) },
		"six trials":            tried(slices.Repeat([]api.StandTrial{trial(1, 0, false)}, 6)...),
		"a trial of 0":          tried(trial(0, 0, false)),
		"a trial of 31":         tried(trial(30, 0, false), trial(31, 0, false)),
		"a trial leans -9":      tried(trial(1, -9, false)),
		"a trial leans 9":       tried(trial(1, 9, true)),
		"a trial leans least":   tried(trial(1, math.MinInt, true)),
		"torn, and a kind":      func(b *api.StandBook) { torn(b); b.Kind = 3 },
	} {
		b := example(c)
		if e := stand.Check(b); e != api.ErrStand {
			t.Errorf("%s: Check: %d", name, e)
		}
		if is, e := stand.Right(b); is || e != api.ErrStand {
			t.Errorf("%s: Right: %v, %d", name, is, e)
		}
		for _, n := range []int{1, 0, 31, math.MinInt, math.MaxInt} {
			wantAskErrors(t, name, b, n, n, n, api.ErrStand)
		}
		wantBookErrors(t, name, b, api.ErrStand)
		if l, e := stand.Wrong(b); len(l) != 0 || e != api.ErrStand {
			t.Errorf("%s: Wrong: %v, %d", name, l, e)
		}
	}
}

// limits are books with the least and the greatest of all numbers.
func limits() []api.StandBook {
	return []api.StandBook{
		{Front: 1, Back: 1, Parts: []api.StandPart{part(just(1), -60, 0)}, Along: -60, Limit: 1},
		{Kind: api.StandBow, Front: 1, Back: 1, Radius: 1, Parts: []api.StandPart{part(to(1, 5), -60, 60)}, Along: -60, High: 60, Limit: 1, Trials: []api.StandTrial{trial(1, 0, true)}},
		{Front: 60, Back: 60, Parts: slices.Repeat([]api.StandPart{part(to(95, 99), 60, 60)}, 4), Along: 60, High: 60, Lean: 12, Limit: 60, Trials: slices.Repeat([]api.StandTrial{trial(60, -12, false), trial(1, 12, true)}, 2)},
		{Kind: api.StandBow, Front: 60, Back: 60, Radius: 120, Parts: slices.Repeat([]api.StandPart{part(to(95, 99), 0, 60)}, 4), Along: 60, High: 60, Lean: 12, Limit: 60, Trials: slices.Repeat([]api.StandTrial{trial(60, 12, false)}, 5)},
	}
}

// P2.1, R7: both ends of each limit are valid. R3: a nil list is like an empty one.
func TestRightBooks(t *testing.T) {
	for i, b := range append(limits(), example(), example(stood), example(torn), example(rocking), beam()) {
		if e := stand.Check(b); e != api.OK {
			t.Errorf("the right book %d: %d", i, e)
		}
	}
	b, c := example(), example(tried([]api.StandTrial{}...))
	c.Trials = []api.StandTrial{}
	one, e := stand.Least(b)
	other, f := stand.Least(c)
	if stand.Check(c) != api.OK || one != other || e != f {
		t.Errorf("no trials: %d, %d; %d, %d", one, e, other, f)
	}
}

// P2.2 to P2.6, R1: a wrong question comes before trials that cannot all be right; these come before that there is none.
func TestOrderOfErrors(t *testing.T) {
	for name, b := range map[string]api.StandBook{"torn": example(torn), "fine": example()} {
		for _, n := range []int{-61, 61, 100, math.MinInt, math.MaxInt} {
			wantAskErrors(t, name, b, n, 0, n, api.ErrStandAsk)
		}
		for _, weight := range []int{0, -1, 31} {
			wantAskErrors(t, name, b, weight, -9, 61, api.ErrStandAsk)
		}
		for _, lean := range []int{-9, 9, math.MinInt, math.MaxInt} {
			if n, e := stand.Tips(b, 1, lean); n != 0 || e != api.ErrStandAsk {
				t.Errorf("Tips %d: %d, %d", lean, n, e)
			}
			if r, e := stand.Margin(b, 30, lean); r != ratio(0, 0) || e != api.ErrStandAsk {
				t.Errorf("Margin %d: %v, %d", lean, r, e)
			}
		}
	}
	none := beam(func(b *api.StandBook) { b.Along = 60 }, tried(trial(1, 0, false)))
	for name, b := range map[string]api.StandBook{"torn": example(torn), "none": none} {
		for _, weight := range []int{1, b.Limit} {
			wantAskErrors(t, name, b, weight, -b.Lean, 60, api.ErrStandFalse)
			wantAskErrors(t, name, b, weight, b.Lean, -60, api.ErrStandFalse)
		}
		wantBookErrors(t, name, b, api.ErrStandFalse)
	}
}

// P2.1, P2.7: which trials must be wrong so that a book can be true.
func TestWrongTrials(t *testing.T) {
	for i, x := range []struct {
		b    api.StandBook
		want []int
	}{
		{example(), nil}, {example(stood), nil}, {example(torn), []int{0}},
		// A child that stays up in some truths, and tips in others: both can be right, but not with a lighter one that tips.
		{example(tried(trial(20, -8, true))), nil},
		{example(tried(trial(20, -8, false))), nil},
		{example(tried(trial(20, -8, true), trial(20, -8, false))), []int{0}},
		{example(tried(trial(21, -8, false), trial(22, -8, true))), nil},
		// What is so in each truth, or in none.
		{example(tried(trial(19, -8, true))), []int{0}},
		{example(tried(trial(19, -8, false), trial(23, -8, false))), []int{1}},
		{example(tried(trial(1, 0, true), trial(30, -8, false))), []int{0, 1}},
		{example(tried(slices.Repeat([]api.StandTrial{trial(19, -8, true)}, 5)...)), []int{0, 1, 2, 3, 4}},
		// The fewest come before the first one.
		{example(tried(trial(20, -8, true), trial(21, -8, false), trial(20, -8, true))), []int{1}},
		{example(tried(trial(21, -8, false), trial(20, -8, true), trial(21, -8, false))), []int{1}},
		{example(tried(trial(20, -8, true), trial(21, -8, false), trial(1, 0, true))), []int{0, 2}},
		{beam(tried(trial(10, 11, true), trial(10, 10, false))), nil},
		{beam(tried(trial(10, 11, false), trial(10, 10, true))), []int{0, 1}},
	} {
		if l, e := stand.Wrong(x.b); !slices.Equal(l, x.want) || e != api.OK {
			t.Errorf("Wrong %d: %v, %d", i, l, e)
		}
		if is, e := stand.Right(x.b); is != (len(x.want) == 0) || e != api.OK {
			t.Errorf("Right %d: %v, %d", i, is, e)
		}
	}
}

// P2.2: Tips and Margin.
func TestTips(t *testing.T) {
	high := func(n int) change { return parts(part(just(10), 0, n)) }
	for i, x := range []struct {
		b            api.StandBook
		weight, lean int
		tips         int
		margin       api.StandRatio
	}{
		{example(), 19, -8, 0, ratio(4, 43)},
		{example(), 20, -8, 1, ratio(-1, 11)},
		{example(), 23, -8, 2, ratio(-28, 47)},
		{example(), 10, -8, 0, ratio(38, 17)},
		{example(stood), 20, -8, 0, ratio(1, 3)},
		{example(tried(trial(20, -8, true))), 20, -8, 2, ratio(-1, 11)},
		{example(rocking), 30, -8, 1, ratio(-200, 9)},
		// On feet: just so is not tipped; back and front are the same.
		{beam(), 10, 10, 0, ratio(0, 1)}, {beam(), 10, -10, 0, ratio(0, 1)},
		{beam(), 10, 11, 2, ratio(-1, 2)}, {beam(), 10, -11, 2, ratio(-1, 2)},
		{beam(), 10, 0, 0, ratio(5, 1)}, {beam(), 1, 12, 0, ratio(43, 11)}, {beam(), 1, -12, 0, ratio(43, 11)},
		// On a bow the lesser margin is that of the lower side, and how high all is counts.
		{beam(onBow(10, 5)), 10, 4, 0, ratio(30, 1)}, {beam(onBow(10, 5)), 10, -4, 0, ratio(30, 1)},
		{beam(onBow(10, 5), high(20)), 10, 0, 0, ratio(0, 1)}, {beam(onBow(10, 5), high(20)), 10, 1, 2, ratio(-5, 1)},
		{beam(onBow(10, 5), high(30)), 10, 0, 2, ratio(-25, 1)},
		{beam(onBow(10, 5), func(b *api.StandBook) { b.High = 20 }), 10, 0, 0, ratio(0, 1)},
		{beam(onBow(10, 5), func(b *api.StandBook) { b.Back = 1 }), 10, 2, 0, ratio(20, 1)},
		{beam(onBow(10, 5), func(b *api.StandBook) { b.Back = 1 }), 10, -2, 0, ratio(0, 1)},
		{limits()[0], 1, 0, 2, ratio(-59, 1)},
		{limits()[3], 60, 12, 0, ratio(26640, 11)},
	} {
		if n, e := stand.Tips(x.b, x.weight, x.lean); n != x.tips || e != api.OK {
			t.Errorf("Tips %d: %d, %d", i, n, e)
		}
		if r, e := stand.Margin(x.b, x.weight, x.lean); r != x.margin || e != api.OK {
			t.Errorf("Margin %d: %v, %d", i, r, e)
		}
	}
}

// P2.3, P2.4: Safe and Room.
func TestRoom(t *testing.T) {
	at := func(along int) change { return func(b *api.StandBook) { b.Along = along } }
	for i, x := range []struct {
		b      api.StandBook
		weight int
		safe   bool
		room   api.Span
		e      api.Errno
	}{
		{example(), 19, true, to(-8, 8), api.OK}, {example(), 20, false, to(-7, 8), api.OK}, {example(), 30, false, to(-5, 8), api.OK},
		{example(stood), 21, true, to(-8, 8), api.OK}, {example(stood), 22, false, to(-7, 8), api.OK},
		{example(rocking), 27, true, to(-8, 8), api.OK}, {example(rocking), 28, false, to(-7, 8), api.OK},
		{beam(), 7, true, to(-12, 12), api.OK}, {beam(), 8, false, to(-11, 11), api.OK}, {beam(), 10, false, to(-10, 10), api.OK},
		// One who sits too far in front has room behind alone; so far that it tips, none.
		{beam(at(10)), 10, false, to(-12, 0), api.OK}, {beam(at(11)), 10, false, just(0), api.ErrNone},
		{beam(at(-10)), 10, false, to(0, 12), api.OK}, {beam(at(-11)), 10, false, just(0), api.ErrNone},
		{beam(at(11), parts(part(to(10, 14), 0, 0))), 10, false, just(0), api.ErrNone},
		{beam(at(11), parts(part(to(12, 14), 0, 0))), 10, false, to(-12, 0), api.OK},
		{beam(func(b *api.StandBook) { b.Lean = 0 }), 10, true, just(0), api.OK},
	} {
		if is, e := stand.Safe(x.b, x.weight); is != x.safe || e != api.OK {
			t.Errorf("Safe %d: %v, %d", i, is, e)
		}
		if s, e := stand.Room(x.b, x.weight); s != x.room || e != x.e {
			t.Errorf("Room %d: %v, %d", i, s, e)
		}
	}
}

// P2.3, P2.6: Least and Wider.
func TestLeast(t *testing.T) {
	for i, x := range []struct {
		b            api.StandBook
		least, wider int
		e, f         api.Errno
	}{
		{example(), 20, 2, api.OK, api.OK}, {example(stood), 22, 2, api.OK, api.OK}, {example(rocking), 28, 1, api.OK, api.OK},
		{beam(), 8, 1, api.OK, api.OK},
		{beam(func(b *api.StandBook) { b.Limit = 7 }), 0, 0, api.ErrNone, api.OK},
		{beam(func(b *api.StandBook) { b.Limit = 8 }), 8, 1, api.OK, api.OK},
		// 20 inches can be told, 21 cannot.
		{beam(func(b *api.StandBook) { b.Along, b.Lean, b.Limit = 50, 0, 10 }), 2, 20, api.OK, api.OK},
		{beam(func(b *api.StandBook) { b.Along, b.Lean, b.Limit = 51, 0, 10 }), 2, 0, api.OK, api.ErrNone},
		// Feet may be more than 60 inches from the middle.
		{beam(func(b *api.StandBook) { b.Front, b.Parts[0].Along, b.Along, b.Limit = 60, 60, 60, 60 }), 1, 11, api.OK, api.OK},
		// A horse that is above its bow's middle tips, however wide the bow.
		{beam(onBow(5, 30), parts(part(just(10), 0, 20))), 1, 0, api.OK, api.ErrNone},
		// The trials are of the horse as it is, not of the wider one.
		{example(tried(trial(20, -8, true))), 20, 2, api.OK, api.OK},
	} {
		if n, e := stand.Least(x.b); n != x.least || e != x.e {
			t.Errorf("Least %d: %d, %d", i, n, e)
		}
		if n, e := stand.Wider(x.b); n != x.wider || e != x.f {
			t.Errorf("Wider %d: %d, %d", i, n, e)
		}
	}
}

// P2.5: Lead.
func TestLead(t *testing.T) {
	for i, x := range []struct {
		b     api.StandBook
		along int
		lead  int
		e     api.Errno
	}{
		{example(), 10, 6, api.OK}, {example(), -4, 0, api.ErrNone}, {example(), 4, 11, api.OK}, {example(stood), 10, 5, api.OK},
		{beam(), 0, 4, api.OK}, {beam(), 5, 0, api.ErrNone}, {beam(), 3, 10, api.OK},
		// Lead that is not needed does no harm, however far it would be from the middle.
		{beam(func(b *api.StandBook) { b.Limit = 7 }), 60, 0, api.OK}, {beam(func(b *api.StandBook) { b.Limit = 7 }), -60, 0, api.OK},
		// 99 pounds of lead can be told, 100 cannot.
		{beam(func(b *api.StandBook) { b.Back, b.Parts[0].Along, b.Lean, b.Along = 1, -10, 0, -1 }), 0, 90, api.OK},
		{beam(func(b *api.StandBook) {
			b.Back, b.Parts, b.Lean, b.Along = 1, []api.StandPart{part(just(11), -10, 0)}, 0, -1
		}), 0, 99, api.OK},
		{beam(func(b *api.StandBook) {
			b.Back, b.Parts, b.Lean, b.Along = 1, []api.StandPart{part(just(11), -10, 0), part(just(1), -2, 0)}, 0, -1
		}), 0, 0, api.ErrNone},
		// On a bow lead helps that lies low.
		{beam(onBow(10, 5), parts(part(just(10), 0, 20)), func(b *api.StandBook) { b.Lean = 0 }), 0, 9, api.OK},
		{beam(onBow(10, 5), parts(part(just(10), 0, 30)), func(b *api.StandBook) { b.Lean = 0 }), 0, 19, api.OK},
		// The trials are of the horse as it is, not of that with lead.
		{example(tried(trial(20, -8, true))), 10, 6, api.OK},
	} {
		if n, e := stand.Lead(x.b, x.along); n != x.lead || e != x.e {
			t.Errorf("Lead %d: %d, %d", i, n, e)
		}
	}
	for _, along := range []int{-60, 60} {
		if _, e := stand.Lead(example(), along); e != api.OK && e != api.ErrNone {
			t.Errorf("Lead at %d: %d", along, e)
		}
	}
}

// answers are the results of all functions for a book and a child.
type answers struct {
	right, safe        bool
	tips, least        int
	lead, wider        int
	margin             api.StandRatio
	room               api.Span
	wrong              []int
	e, f, g, h, i, j   api.Errno
	k, l, m, lastOfAll api.Errno
}

// sameAnswers reports whether all answers are the same but for those of Wrong.
func sameAnswers(a, b answers) bool {
	a.wrong, b.wrong = nil, nil
	return reflect.DeepEqual(a, b)
}

func ask(b api.StandBook, weight, lean, along int) answers {
	var a answers
	a.e = stand.Check(b)
	a.right, a.f = stand.Right(b)
	a.tips, a.g = stand.Tips(b, weight, lean)
	a.margin, a.h = stand.Margin(b, weight, lean)
	a.safe, a.i = stand.Safe(b, weight)
	a.least, a.j = stand.Least(b)
	a.room, a.k = stand.Room(b, weight)
	a.lead, a.l = stand.Lead(b, along)
	a.wider, a.m = stand.Wider(b)
	a.wrong, a.lastOfAll = stand.Wrong(b)
	return a
}

// P2.8, P2, R4: arguments are not changed, results are new memory, and the same arguments have the same results.
func TestMemory(t *testing.T) {
	for _, c := range []change{stood, torn, rocking, tried(trial(19, -8, true), trial(1, 0, true))} {
		b := example(c)
		// Room behind the lists, into which nothing may be written.
		b.Parts = append(slices.Clone(b.Parts), part(just(7), 7, 7))[:2]
		b.Trials = append(slices.Clone(b.Trials), trial(7, 7, true))[:len(b.Trials)]
		before := clone(b)
		first := ask(b, 20, -8, 10)
		kept := slices.Clone(first.wrong)
		for i := range first.wrong {
			first.wrong[i] = 99
		}
		_ = append(first.wrong, 99)
		second := ask(b, 20, -8, 10)
		if !slices.Equal(second.wrong, kept) {
			t.Errorf("Wrong: %v, then %v", kept, second.wrong)
		}
		if !sameAnswers(first, second) {
			t.Errorf("%v, then %v", first, second)
		}
		if !reflect.DeepEqual(b, before) || b.Parts[:3][2] != part(just(7), 7, 7) || b.Trials[:len(b.Trials)+1][len(b.Trials)] != trial(7, 7, true) {
			t.Errorf("%v was changed to %v", before, b)
		}
	}
}
