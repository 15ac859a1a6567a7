package hair_test

import (
	"math"
	"reflect"
	"slices"
	"testing"

	"skewbald/api"
	"skewbald/hair"
)

func to(low, high int) api.Span { return api.Span{Low: low, High: high} }

func just(n int) api.Span { return to(n, n) }

func hank(weight, shade api.Span) api.HairHank { return api.HairHank{Weight: weight, Shade: shade} }

func horse(mane, tail, shade int) api.HairHorse {
	return api.HairHorse{Mane: mane, Tail: tail, Shade: shade}
}

type change func(b *api.HairBook)

// changed returns a changed copy of a book.
func changed(b api.HairBook, changes ...change) api.HairBook {
	b = clone(b)
	for _, c := range changes {
		c(&b)
	}
	return b
}

// example is the book of the chapter's examples, changed.
func example(changes ...change) api.HairBook {
	return changed(api.HairBook{
		Hanks:  []api.HairHank{hank(to(10, 11), to(4, 5)), hank(to(8, 9), just(6)), hank(to(20, 22), just(3))},
		Horses: []api.HairHorse{horse(6, 4, 6), horse(5, 3, 7)},
		Dark:   2,
		Near:   1,
		Match:  1,
	}, changes...)
}

// short and poor are the changes of the chapter's examples.
func short(b *api.HairBook) { b.Hanks[1].Weight = to(7, 8) }

func poor(b *api.HairBook) {
	short(b)
	b.Hanks = b.Hanks[:2]
}

func hanks(l ...api.HairHank) change { return func(b *api.HairBook) { b.Hanks = l } }

func horses(l ...api.HairHorse) change { return func(b *api.HairBook) { b.Horses = l } }

func dark(n int) change { return func(b *api.HairBook) { b.Dark = n } }

func nearTo(n int) change { return func(b *api.HairBook) { b.Near = n } }

func matching(n int) change { return func(b *api.HairBook) { b.Match = n } }

// plain is a book in which hanks have just so many ounces of the shade 5, and hair is not dyed, nor may differ.
func plain(weights []int, all ...api.HairHorse) api.HairBook {
	var spans []api.Span
	for _, n := range weights {
		spans = append(spans, just(n))
	}
	return vague(spans, all...)
}

// vague is like plain, but weights are known between bounds.
func vague(weights []api.Span, all ...api.HairHorse) api.HairBook {
	b := api.HairBook{Horses: all}
	for _, s := range weights {
		b.Hanks = append(b.Hanks, hank(s, just(5)))
	}
	return b
}

// shades is a book whose hanks have 60 ounces, and are of some shades, with a horse whose parts are an ounce each.
func shades(wanted, dark, near, match int, all ...api.Span) api.HairBook {
	b := api.HairBook{Horses: []api.HairHorse{horse(1, 1, wanted)}, Dark: dark, Near: near, Match: match}
	for _, s := range all {
		b.Hanks = append(b.Hanks, hank(just(60), s))
	}
	return b
}

// answers are the results of all functions for a book and a question, with the error of each.
type answers struct {
	mane, tail, buy int
	works, perhaps  bool
	left, off       api.Span
	best, lacks     []int
	errors          [9]api.Errno
}

// question is what is asked of a book.
type question struct {
	horse, mane, tail int
	plan              []int
	hank, shade       int
}

func ask(b api.HairBook, q question) answers {
	var a answers
	a.errors[0] = hair.Check(b)
	a.mane, a.tail, a.errors[1] = hair.Dyes(b, q.horse, q.mane, q.tail)
	a.works, a.errors[2] = hair.Works(b, q.plan)
	a.left, a.errors[3] = hair.Left(b, q.plan, q.hank)
	a.off, a.errors[4] = hair.Off(b, q.plan)
	a.best, a.errors[5] = hair.Best(b)
	a.lacks, a.errors[6] = hair.Lacks(b)
	a.buy, a.errors[7] = hair.Buy(b, q.shade)
	a.perhaps, a.errors[8] = hair.Perhaps(b)
	return a
}

// wrongBooks are books each of which is wrong in one place.
func wrongBooks() map[string]api.HairBook {
	all := map[string]api.HairBook{
		"only Dark":     {Dark: 5},
		"only a hank":   {Hanks: make([]api.HairHank, 1)},
		"only a horse":  {Horses: make([]api.HairHorse, 1)},
		"5 hanks alone": {Hanks: slices.Repeat([]api.HairHank{hank(just(1), just(0))}, 5)},
	}
	for name, c := range map[string]change{
		"5 hanks":     hanks(slices.Repeat([]api.HairHank{hank(just(20), just(5))}, 5)...),
		"many hanks":  hanks(slices.Repeat([]api.HairHank{hank(just(20), just(5))}, 1000)...),
		"4 horses":    horses(slices.Repeat([]api.HairHorse{horse(1, 1, 5)}, 4)...),
		"many horses": horses(slices.Repeat([]api.HairHorse{horse(1, 1, 5)}, 1000)...),
	} {
		all[name] = example(c)
	}
	ends := map[string]int{"-1": -1, "far below 0": math.MinInt, "far above": math.MaxInt}
	for name, n := range ends {
		all["Dark "+name] = example(dark(n))
		all["Near "+name] = example(nearTo(n))
		all["Match "+name] = example(matching(n))
	}
	all["Dark 5"], all["Near 4"], all["Match 4"] = example(dark(5)), example(nearTo(4)), example(matching(4))
	for name, s := range map[string]api.Span{
		"from 0": to(0, 2), "just 0": just(0), "from -1": to(-1, 3), "61": just(61), "to 61": to(60, 61), "57 to 61": to(57, 61), "5 apart": to(10, 15), "many apart": to(1, 60), "turned": to(11, 10), "turned far": to(60, 1), "all": to(math.MinInt, math.MaxInt), "turned all": to(math.MaxInt, math.MinInt), "far below": just(math.MinInt), "far above": just(math.MaxInt), "from far below": to(math.MinInt, 3), "to far above": to(3, math.MaxInt),
	} {
		for n := range 3 {
			all["the Weight of a hank "+name+string(rune('0'+n))] = example(func(b *api.HairBook) { b.Hanks[n].Weight = s })
		}
	}
	for name, s := range map[string]api.Span{
		"from -1": to(-1, 0), "just -1": just(-1), "21": just(21), "to 21": to(20, 21), "19 to 21": to(19, 21), "3 apart": to(4, 7), "many apart": to(0, 20), "turned": to(5, 4), "turned far": to(20, 0), "all": to(math.MinInt, math.MaxInt), "turned all": to(math.MaxInt, math.MinInt), "far below": just(math.MinInt), "far above": just(math.MaxInt), "from far below": to(math.MinInt, 3), "to far above": to(3, math.MaxInt),
	} {
		for n := range 3 {
			all["the Shade of a hank "+name+string(rune('0'+n))] = example(func(b *api.HairBook) { b.Hanks[n].Shade = s })
		}
	}
	for name, h := range map[string]api.HairHorse{
		"Mane 0": horse(0, 3, 6), "Mane 31": horse(31, 3, 6), "Mane -1": horse(-1, 3, 6), "Mane far below": horse(math.MinInt, 3, 6), "Mane far above": horse(math.MaxInt, 3, 6),
		"Tail 0": horse(3, 0, 6), "Tail 31": horse(3, 31, 6), "Tail -1": horse(3, -1, 6), "Tail far below": horse(3, math.MinInt, 6), "Tail far above": horse(3, math.MaxInt, 6),
		"Shade -1": horse(3, 3, -1), "Shade 26": horse(3, 3, 26), "Shade far below": horse(3, 3, math.MinInt), "Shade far above": horse(3, 3, math.MaxInt),
	} {
		for n := range 2 {
			all[name+" of a horse "+string(rune('0'+n))] = example(func(b *api.HairBook) { b.Horses[n] = h })
		}
	}
	return all
}

// wantErrors checks that all functions returned one error, and zero values.
func wantErrors(t *testing.T, name string, a answers, want api.Errno) {
	t.Helper()
	for n, e := range a.errors {
		if e != want {
			t.Errorf("%s: the error of the function %d: %d", name, n, e)
		}
	}
	if len(a.best)+len(a.lacks) > 0 {
		t.Errorf("%s: %v", name, a)
	}
	a.errors, a.best, a.lacks = [9]api.Errno{}, nil, nil
	if !reflect.DeepEqual(a, answers{}) {
		t.Errorf("%s: %v", name, a)
	}
}

// P6.1, P1, R1, R2, R8: a book that is not valid is the first error of all functions, even with wrong questions; of several errors in it too.
func TestWrongBooks(t *testing.T) {
	asked := []question{
		{plan: []int{0, 0, 1, 1}, shade: 6},
		{horse: -1, mane: -1, tail: -1, hank: -1, shade: -1},
		{horse: 2, mane: 3, tail: 3, plan: []int{0, 0, 1, 3}, hank: 3, shade: 21},
		{horse: math.MaxInt, mane: math.MinInt, tail: math.MaxInt, plan: []int{math.MinInt, 0, 0, math.MaxInt}, hank: math.MinInt, shade: math.MaxInt},
	}
	for name, b := range wrongBooks() {
		for _, q := range asked {
			wantErrors(t, name, ask(b, q), api.ErrHair)
			q.plan = make([]int, 2*len(b.Horses))
			wantErrors(t, name, ask(b, q), api.ErrHair)
		}
	}
	several := api.HairBook{Hanks: make([]api.HairHank, 9), Horses: make([]api.HairHorse, 9), Dark: -1, Near: -1, Match: -1}
	wantErrors(t, "all is wrong", ask(several, question{horse: -1, hank: 9, shade: -1}), api.ErrHair)
}

// limits are books with the least and the greatest of all numbers.
func limits() []api.HairBook {
	four := func(h api.HairHank) change { return hanks(slices.Repeat([]api.HairHank{h}, 4)...) }
	three := func(h api.HairHorse) change { return horses(slices.Repeat([]api.HairHorse{h}, 3)...) }
	return []api.HairBook{
		{},
		{Dark: 4, Near: 3, Match: 3},
		example(hanks()),
		example(horses()),
		example(hanks(hank(just(1), just(0))), horses(horse(1, 1, 0)), dark(0), nearTo(0), matching(0)),
		example(four(hank(to(1, 5), to(0, 2))), three(horse(1, 1, 0))),
		example(four(hank(just(60), just(20))), three(horse(30, 30, 25)), dark(4), nearTo(3), matching(3)),
		example(four(hank(to(56, 60), to(18, 20))), three(horse(30, 30, 25)), dark(4), nearTo(3), matching(0)),
		example(four(hank(just(1), just(20))), three(horse(30, 1, 0)), dark(4), nearTo(0), matching(3)),
		example(four(hank(to(59, 60), to(19, 20))), three(horse(1, 30, 25)), dark(0), nearTo(3), matching(3)),
	}
}

// P6.1, R7: both ends of each limit are valid, and all that lies between them.
func TestRightBooks(t *testing.T) {
	for i, b := range append(limits(), example(), example(short), example(poor)) {
		if e := hair.Check(b); e != api.OK {
			t.Errorf("the right book %d: %d", i, e)
		}
	}
	right := func(b api.HairBook) {
		t.Helper()
		if e := hair.Check(b); e != api.OK {
			t.Errorf("Check %v: %d", b, e)
		}
	}
	for low := 1; low <= api.HairOunces; low++ {
		for high := low; high <= min(low+api.HairWide, api.HairOunces); high++ {
			right(example(func(b *api.HairBook) { b.Hanks[low%3].Weight = to(low, high) }))
		}
	}
	for low := range api.HairShades + 1 {
		for high := low; high <= min(low+api.HairTint, api.HairShades); high++ {
			right(example(func(b *api.HairBook) { b.Hanks[low%3].Shade = to(low, high) }))
		}
	}
	for n := 1; n <= api.HairPart; n++ {
		right(example(func(b *api.HairBook) { b.Horses[n%2].Mane = n }))
		right(example(func(b *api.HairBook) { b.Horses[n%2].Tail = n }))
	}
	for n := range api.HairWanted + 1 {
		right(example(func(b *api.HairBook) { b.Horses[n%2].Shade = n }))
	}
	for n := range api.HairDark + 1 {
		for m := range api.HairNear + 1 {
			right(example(dark(n), nearTo(m), matching(api.HairNear-m)))
		}
	}
	for n := range api.HairHanks + 1 {
		for m := range api.HairHorses + 1 {
			right(plain(slices.Repeat([]int{9}, n), slices.Repeat([]api.HairHorse{horse(1, 2, 3)}, m)...))
		}
	}
}

// P6.1 to P6.3, P6.6, R1, R2: a wrong question comes before that there is nothing; with an error all results are zero.
func TestTheOrderOfErrors(t *testing.T) {
	all := append(limits(), example(), example(short), example(poor), example(nearTo(0), dark(0)))
	for i, b := range all {
		for _, n := range []int{-1, len(b.Horses), 3, math.MinInt, math.MaxInt} {
			wantDyesError(t, i, b, n, 0, 0)
		}
		for _, n := range []int{-1, len(b.Hanks), 4, math.MinInt, math.MaxInt} {
			wantDyesError(t, i, b, 0, n, 0)
			wantDyesError(t, i, b, 0, 0, n)
			wantDyesError(t, i, b, 0, n, n)
			if len(b.Horses) > 0 {
				wantPlanError(t, i, b, append([]int{n}, make([]int, 2*len(b.Horses)-1)...))
				wantPlanError(t, i, b, append(make([]int, 2*len(b.Horses)-1), n))
			}
			plan, _ := hair.Best(b)
			if s, e := hair.Left(b, plan, n); s != (api.Span{}) || e != api.ErrHairAsk {
				t.Errorf("the book %d: Left of %d: %v, %d", i, n, s, e)
			}
		}
		for long := range 10 {
			if long != 2*len(b.Horses) {
				wantPlanError(t, i, b, make([]int, long))
			}
		}
		wantPlanError(t, i, b, make([]int, 1000))
		for _, n := range []int{-1, 21, 25, math.MinInt, math.MaxInt} {
			if n, e := hair.Buy(b, n); n != 0 || e != api.ErrHairAsk {
				t.Errorf("the book %d: Buy %d: %d, %d", i, n, n, e)
			}
		}
	}
}

func wantDyesError(t *testing.T, i int, b api.HairBook, horse, mane, tail int) {
	t.Helper()
	if m, n, e := hair.Dyes(b, horse, mane, tail); m != 0 || n != 0 || e != api.ErrHairAsk {
		t.Errorf("the book %d: Dyes of %d, %d, %d: %d, %d, %d", i, horse, mane, tail, m, n, e)
	}
}

// wantPlanError checks that a list is no plan.
func wantPlanError(t *testing.T, i int, b api.HairBook, plan []int) {
	t.Helper()
	if is, e := hair.Works(b, plan); is || e != api.ErrHairAsk {
		t.Errorf("the book %d: Works %v: %v, %d", i, plan, is, e)
	}
	wantNoWork(t, i, b, plan)
}

// wantNoWork checks that nothing is told of what is cut by a list.
func wantNoWork(t *testing.T, i int, b api.HairBook, plan []int) {
	t.Helper()
	if s, e := hair.Off(b, plan); s != (api.Span{}) || e != api.ErrHairAsk {
		t.Errorf("the book %d: Off by %v: %v, %d", i, plan, s, e)
	}
	for hank := range len(b.Hanks) + 1 {
		if s, e := hair.Left(b, plan, hank); s != (api.Span{}) || e != api.ErrHairAsk {
			t.Errorf("the book %d: Left of %d by %v: %v, %d", i, hank, plan, s, e)
		}
	}
}

// P6.1: Dyes. No steps are none at all.
func TestDyes(t *testing.T) {
	no := []int(nil)
	for i, x := range []struct {
		b                 api.HairBook
		horse, mane, tail int
		want              []int
	}{
		{example(), 0, 0, 0, []int{1, 1}}, {example(), 0, 0, 1, []int{1, 0}}, {example(), 0, 0, 2, []int{1, 2}},
		{example(), 0, 1, 0, []int{0, 1}}, {example(), 0, 1, 1, []int{0, 0}}, {example(), 0, 1, 2, []int{0, 2}},
		{example(), 0, 2, 0, []int{2, 1}}, {example(), 0, 2, 1, []int{2, 0}}, {example(), 0, 2, 2, []int{2, 2}},
		{example(), 1, 0, 0, []int{2, 2}}, {example(), 1, 0, 1, []int{2, 0}}, {example(), 1, 0, 2, no},
		{example(), 1, 1, 0, []int{0, 2}}, {example(), 1, 1, 1, []int{0, 0}}, {example(), 1, 1, 2, no},
		{example(), 1, 2, 0, no}, {example(), 1, 2, 1, no}, {example(), 1, 2, 2, no},
		{example(dark(3)), 1, 2, 2, []int{3, 3}}, {example(dark(3)), 1, 0, 2, []int{2, 3}}, {example(dark(1)), 0, 2, 2, no}, {example(dark(1)), 0, 0, 0, []int{1, 1}},
		// How much hair there is does not matter.
		{example(func(b *api.HairBook) { b.Hanks[0].Weight = just(1) }), 0, 0, 0, []int{1, 1}},
		// Near is far enough, and an end of the shade lies beyond it.
		{shades(5, 0, 0, 3, just(5)), 0, 0, 0, []int{0, 0}},
		{shades(5, 0, 0, 3, to(5, 6)), 0, 0, 0, no},
		{shades(5, 4, 0, 3, to(4, 5)), 0, 0, 0, no},
		{shades(5, 4, 1, 3, to(4, 6)), 0, 0, 0, []int{0, 0}},
		{shades(5, 4, 1, 3, to(5, 7)), 0, 0, 0, no},
		{shades(5, 4, 1, 3, to(2, 4)), 0, 0, 0, []int{2, 2}},
		{shades(5, 1, 1, 3, to(2, 4)), 0, 0, 0, no},
		{shades(8, 4, 3, 3, just(1)), 0, 0, 0, []int{4, 4}},
		{shades(9, 4, 3, 3, just(1)), 0, 0, 0, no},
		{shades(5, 4, 3, 3, just(9)), 0, 0, 0, no},
		{shades(5, 4, 3, 3, just(8)), 0, 0, 0, []int{0, 0}},
		{shades(0, 4, 2, 0, to(0, 2)), 0, 0, 0, []int{0, 0}},
		{shades(0, 4, 1, 0, to(0, 2)), 0, 0, 0, no},
		{shades(25, 4, 1, 0, just(20)), 0, 0, 0, []int{4, 4}},
		{shades(25, 4, 0, 0, just(20)), 0, 0, 0, no},
		{shades(25, 4, 3, 0, to(18, 20)), 0, 0, 0, []int{4, 4}},
		{shades(25, 3, 3, 0, to(18, 20)), 0, 0, 0, no},
		// Only one of both comes near, whichever one.
		{shades(5, 0, 1, 3, just(5), just(8)), 0, 0, 1, no},
		{shades(5, 0, 1, 3, just(5), just(8)), 0, 1, 0, no},
		{shades(5, 0, 1, 3, just(5), just(2)), 0, 0, 1, no},
		{shades(5, 0, 1, 3, just(5), just(2)), 0, 1, 0, no},
		// Both come near, but not to each other, on either side.
		{shades(5, 0, 2, 3, just(3), just(7)), 0, 0, 1, no},
		{shades(5, 0, 2, 3, just(3), just(7)), 0, 1, 0, no},
		{shades(5, 0, 2, 3, just(4), just(7)), 0, 0, 1, []int{0, 0}},
		{shades(5, 0, 2, 3, just(4), just(7)), 0, 1, 0, []int{0, 0}},
		// One that is near is dyed, since the other one is darker.
		{shades(5, 4, 2, 1, just(3), just(5)), 0, 0, 1, []int{1, 0}},
		{shades(5, 4, 2, 1, just(3), just(5)), 0, 1, 0, []int{0, 1}},
		{shades(5, 4, 2, 0, just(3), just(5)), 0, 1, 0, []int{0, 2}},
		{shades(5, 1, 2, 0, just(3), just(5)), 0, 1, 0, no},
		{shades(5, 1, 2, 0, just(3), just(5)), 0, 0, 1, no},
		// Both must be dyed.
		{shades(9, 4, 1, 0, just(5), just(6)), 0, 0, 1, []int{3, 2}},
		{shades(9, 4, 1, 0, just(5), just(6)), 0, 1, 0, []int{2, 3}},
		{shades(9, 4, 1, 1, just(5), just(6)), 0, 0, 1, []int{3, 2}},
		// The fewest of the mane, even if the tail has more with them.
		{shades(9, 4, 3, 0, just(6), just(4)), 0, 0, 1, []int{0, 2}},
		{shades(9, 4, 3, 0, just(4), just(6)), 0, 0, 1, []int{2, 0}},
		{shades(9, 4, 3, 1, just(4), just(6)), 0, 0, 1, []int{2, 0}},
		{shades(9, 4, 3, 1, just(7), just(4)), 0, 0, 1, []int{0, 2}},
		// Of one hank both parts are of the same shade, but of two they may not be, even if as much is known of them.
		{shades(5, 0, 2, 0, to(4, 5), to(4, 5)), 0, 0, 0, []int{0, 0}},
		{shades(5, 0, 2, 0, to(4, 5), to(4, 5)), 0, 1, 1, []int{0, 0}},
		{shades(5, 0, 2, 0, to(4, 5), to(4, 5)), 0, 0, 1, no},
		{shades(5, 4, 3, 0, to(4, 5), to(4, 5)), 0, 1, 0, no},
		{shades(5, 0, 2, 1, to(4, 5), to(4, 5)), 0, 0, 1, []int{0, 0}},
		{shades(5, 0, 2, 1, to(4, 6), to(4, 6)), 0, 0, 1, no},
		{shades(5, 0, 2, 1, to(4, 6), to(4, 6)), 0, 0, 0, []int{0, 0}},
		{shades(5, 0, 3, 2, to(4, 6), to(4, 6)), 0, 0, 1, []int{0, 0}},
		// The dark end of one, and the light end of the other, whichever one is the mane.
		{shades(5, 0, 3, 2, to(3, 4), to(5, 6)), 0, 0, 1, no},
		{shades(5, 0, 3, 3, to(3, 4), to(5, 6)), 0, 0, 1, []int{0, 0}},
		{shades(5, 0, 3, 2, to(3, 4), to(5, 6)), 0, 1, 0, no},
		{shades(5, 2, 3, 1, to(3, 4), to(5, 6)), 0, 0, 1, []int{2, 0}},
		{shades(5, 2, 3, 1, to(3, 4), to(5, 6)), 0, 1, 0, []int{0, 2}},
		{shades(5, 2, 3, 0, to(3, 4), to(5, 6)), 0, 0, 1, no},
		{shades(6, 3, 3, 2, to(3, 4), to(5, 6)), 0, 0, 1, []int{1, 0}},
	} {
		m, n, e := hair.Dyes(x.b, x.horse, x.mane, x.tail)
		if x.want == nil && (m != 0 || n != 0 || e != api.ErrNone) || x.want != nil && (m != x.want[0] || n != x.want[1] || e != api.OK) {
			t.Errorf("Dyes %d: %d, %d, %d", i, m, n, e)
		}
	}
}

// P6.2, P6.3: Works, Off and Left, of a plan that surely works, and of one that does not.
func TestPlans(t *testing.T) {
	three := []api.HairHorse{horse(10, 5, 5), horse(20, 4, 5), horse(6, 15, 5)}
	for i, x := range []struct {
		b    api.HairBook
		plan []int
		off  api.Span
		left []api.Span
	}{
		{example(), []int{0, 0, 1, 1}, to(0, 2), []api.Span{to(0, 1), to(0, 1), to(20, 22)}},
		{example(), []int{2, 2, 1, 1}, to(10, 13), []api.Span{to(10, 11), to(0, 1), to(10, 12)}},
		{example(), []int{2, 2, 0, 0}, to(12, 15), []api.Span{to(2, 3), to(8, 9), to(10, 12)}},
		{example(), []int{2, 2, 0, 1}, to(20, 24), []api.Span{to(5, 6), to(5, 6), to(10, 12)}},
		{example(), []int{1, 2, 0, 0}, to(20, 24), []api.Span{to(2, 3), to(2, 3), to(16, 18)}},
		{example(), []int{0, 2, 1, 1}, to(20, 24), []api.Span{to(4, 5), to(0, 1), to(16, 18)}},
		{example(), []int{0, 1, 1, 1}, api.Span{}, nil},
		{example(), []int{2, 2, 2, 2}, api.Span{}, nil},
		{example(), []int{2, 2, 1, 2}, api.Span{}, nil},
		{example(), []int{0, 0, 0, 0}, api.Span{}, nil},
		{example(short), []int{0, 0, 1, 1}, api.Span{}, nil},
		{example(short), []int{2, 2, 0, 0}, to(12, 15), []api.Span{to(2, 3), to(7, 8), to(10, 12)}},
		{example(short), []int{1, 2, 0, 0}, to(19, 23), []api.Span{to(2, 3), to(1, 2), to(16, 18)}},
		// The empty plan.
		{example(horses()), nil, just(0), []api.Span{to(10, 11), to(8, 9), to(20, 22)}},
		{example(horses(), hanks()), []int{}, just(0), []api.Span{}},
		// All of a hank, an ounce more, and in some truths only.
		{plain([]int{9}, horse(5, 4, 5)), []int{0, 0}, just(0), []api.Span{just(0)}},
		{plain([]int{8}, horse(5, 4, 5)), []int{0, 0}, api.Span{}, nil},
		{vague([]api.Span{to(9, 13)}, horse(5, 4, 5)), []int{0, 0}, to(0, 4), []api.Span{to(0, 4)}},
		{vague([]api.Span{to(8, 12)}, horse(5, 4, 5)), []int{0, 0}, api.Span{}, nil},
		{vague([]api.Span{to(8, 9)}, horse(5, 4, 5)), []int{0, 0}, api.Span{}, nil},
		{vague([]api.Span{to(5, 6), to(4, 8)}, horse(5, 4, 5)), []int{0, 1}, to(0, 5), []api.Span{to(0, 1), to(0, 4)}},
		{vague([]api.Span{to(5, 6), to(4, 8)}, horse(5, 4, 5)), []int{1, 0}, api.Span{}, nil},
		// What comes from a hank for several horses counts together.
		{plain([]int{60}, three...), []int{0, 0, 0, 0, 0, 0}, just(0), []api.Span{just(0)}},
		{plain([]int{59}, three...), []int{0, 0, 0, 0, 0, 0}, api.Span{}, nil},
		{plain([]int{36, 24}, three...), []int{0, 1, 0, 1, 0, 1}, just(0), []api.Span{just(0), just(0)}},
		{plain([]int{35, 25}, three...), []int{0, 1, 0, 1, 0, 1}, api.Span{}, nil},
		{plain([]int{37, 23}, three...), []int{0, 1, 0, 1, 0, 1}, api.Span{}, nil},
		{plain([]int{29, 31, 9}, three...), []int{1, 0, 1, 0, 2, 0}, just(9), []api.Span{just(5), just(1), just(3)}},
		{plain([]int{29, 29, 9}, three...), []int{1, 0, 1, 0, 2, 0}, api.Span{}, nil},
		{plain([]int{60, 60, 60, 60}, horse(30, 30, 5)), []int{1, 3}, just(60), []api.Span{just(60), just(30), just(60), just(30)}},
		// The parts of each horse must match, not only those of the first, or the last.
		{plain([]int{60}, horse(1, 1, 5), horse(1, 1, 6)), []int{0, 0, 0, 0}, api.Span{}, nil},
		{plain([]int{60}, horse(1, 1, 6), horse(1, 1, 5)), []int{0, 0, 0, 0}, api.Span{}, nil},
		{plain([]int{60}, horse(1, 1, 5), horse(1, 1, 6), horse(1, 1, 5)), []int{0, 0, 0, 0, 0, 0}, api.Span{}, nil},
		// In each truth they match by some steps, but by other ones in others.
		{shades(6, 2, 0, 0, to(4, 6)), []int{0, 0}, api.Span{}, nil},
		{shades(6, 2, 1, 0, to(4, 6)), []int{0, 0}, just(58), []api.Span{just(58)}},
	} {
		is, e := hair.Works(x.b, x.plan)
		if is != (x.left != nil) || e != api.OK {
			t.Errorf("Works %d: %v, %d", i, is, e)
		}
		if x.left == nil {
			wantNoWork(t, i, x.b, x.plan)
			continue
		}
		if s, e := hair.Off(x.b, x.plan); s != x.off || e != api.OK {
			t.Errorf("Off %d: %v, %d", i, s, e)
		}
		for hank, want := range x.left {
			if s, e := hair.Left(x.b, x.plan, hank); s != want || e != api.OK {
				t.Errorf("Left %d of %d: %v, %d", i, hank, s, e)
			}
		}
	}
}

// P6.4: Best.
func TestBest(t *testing.T) {
	one, two := horse(5, 4, 5), horse(2, 1, 5)
	no := []int{none}
	for i, x := range []struct {
		b    api.HairBook
		want []int
	}{
		{example(), []int{0, 0, 1, 1}},
		{example(short), []int{2, 2, 0, 0}},
		{example(poor), no},
		{example(horses()), nil},
		{example(horses(), hanks()), nil},
		{example(hanks()), no},
		{example(nearTo(0)), no},
		{plain([]int{9}, one), []int{0, 0}},
		{plain([]int{8}, one), no},
		// The least that is cut off, wherever it is.
		{plain([]int{10, 9}, one), []int{1, 1}},
		{plain([]int{11, 10, 9}, one), []int{2, 2}},
		{plain([]int{11, 9, 10}, one), []int{1, 1}},
		{plain([]int{60, 5, 4}, one), []int{1, 2}},
		{plain([]int{60, 4, 5}, one), []int{2, 1}},
		{plain([]int{60, 60, 60, 9}, one), []int{3, 3}},
		// Nothing is cut off of a hank from which nothing is cut.
		{plain([]int{9, 60}, one), []int{0, 0}},
		{plain([]int{60, 14}, one, two), []int{1, 1, 1, 1}},
		// The first one of several.
		{plain([]int{9, 9}, one), []int{0, 0}},
		{plain([]int{9, 5, 4}, one), []int{0, 0}},
		{plain([]int{5, 4, 9}, one), []int{0, 1}},
		{plain([]int{5, 5}, one), []int{0, 1}},
		{plain([]int{6, 6}, one, two), []int{0, 1, 1, 0}},
		{plain([]int{6, 6}, two, one), []int{0, 1, 1, 0}},
		{plain([]int{7, 5}, one, two), []int{0, 1, 0, 1}},
		{plain([]int{10, 10, 10}, horse(5, 5, 5), horse(5, 5, 5), horse(5, 5, 5)), []int{0, 0, 1, 1, 2, 2}},
		{plain([]int{10, 20}, horse(5, 5, 5), horse(5, 5, 5), horse(5, 5, 5)), []int{0, 0, 1, 1, 1, 1}},
		{plain([]int{3, 6, 9, 12}, horse(9, 3, 5), horse(3, 6, 5), horse(6, 3, 5)), []int{2, 0, 1, 3, 3, 1}},
		// What is cut off at most counts, not at least, nor both together.
		{vague([]api.Span{to(9, 13), to(11, 12)}, one), []int{1, 1}},
		{vague([]api.Span{to(9, 13), to(12, 13)}, one), []int{0, 0}},
		{vague([]api.Span{to(12, 13), to(9, 13)}, one), []int{0, 0}},
		{vague([]api.Span{to(9, 13), to(13, 14)}, one), []int{0, 0}},
		{vague([]api.Span{to(9, 12), to(5, 6), to(4, 6)}, one), []int{0, 0}},
		{vague([]api.Span{to(9, 12), to(5, 6), to(4, 5)}, one), []int{1, 2}},
		{vague([]api.Span{to(8, 9), to(12, 16)}, one), []int{1, 1}},
		// By less a plan does not surely work.
		{shades(5, 0, 1, 0, to(5, 6), to(5, 6)), []int{0, 0}},
		{changed(plain([]int{9, 10}, one), func(b *api.HairBook) { b.Hanks[0].Shade = just(6) }), []int{1, 1}},
		{changed(plain([]int{9, 10}, one), func(b *api.HairBook) { b.Hanks[0].Shade = to(4, 5) }), []int{1, 1}},
	} {
		want, wanted := x.want, api.OK
		if slices.Equal(want, no) {
			want, wanted = nil, api.ErrNone
		}
		if l, e := hair.Best(x.b); !slices.Equal(l, want) || e != wanted {
			t.Errorf("Best %d: %v, %d", i, l, e)
		}
	}
}

// P6.5: Lacks.
func TestLacks(t *testing.T) {
	nine, much, blue := horse(5, 4, 5), horse(30, 30, 5), horse(1, 1, 15)
	for i, x := range []struct {
		b    api.HairBook
		want []int
	}{
		{example(), nil},
		{example(short), nil},
		{example(poor), []int{0}},
		{example(horses()), nil},
		{example(horses(), hanks()), nil},
		{example(hanks()), []int{0, 1}},
		{example(func(b *api.HairBook) { b.Horses[1].Shade = 20 }), []int{1}},
		{example(func(b *api.HairBook) { b.Horses[0].Shade = 20 }), []int{0}},
		{example(dark(0)), []int{0}},
		// The first one of several lists.
		{plain([]int{9}, nine, nine), []int{0}},
		{plain([]int{9}, nine, nine, nine), []int{0, 1}},
		{plain([]int{18}, nine, nine, nine), []int{0}},
		{plain([]int{27}, nine, nine, nine), nil},
		{plain([]int{8}, nine, nine, nine), []int{0, 1, 2}},
		{plain([]int{9}, nine, much, nine), []int{0, 1}},
		{plain([]int{9}, much, nine, nine), []int{0, 1}},
		{plain([]int{9}, nine, nine, much), []int{0, 2}},
		{plain([]int{9}, blue, nine, blue), []int{0, 2}},
		{plain([]int{9}, nine, blue, blue), []int{1, 2}},
		{plain([]int{9}, blue, blue, nine), []int{0, 1}},
		{plain([]int{9}, blue, blue, blue), []int{0, 1, 2}},
		{plain([]int{18}, blue, nine, nine), []int{0}},
		{plain([]int{18}, nine, blue, nine), []int{1}},
		{plain([]int{18}, nine, nine, blue), []int{2}},
		// The fewest, even if a longer list comes before it.
		{plain([]int{60}, nine, nine, much), []int{2}},
		{plain([]int{60}, nine, much, nine), []int{1}},
		{plain([]int{60}, much, nine, nine), []int{0}},
		{plain([]int{60, 9}, much, nine, nine), []int{0}},
		{plain([]int{60, 18}, much, nine, nine), nil},
		{plain([]int{60, 60}, much, much, nine), []int{0}},
		{plain([]int{60, 60}, nine, much, much), []int{0}},
		{plain([]int{60, 59}, nine, much, much), []int{1}},
		// In some truths there is enough.
		{vague([]api.Span{to(8, 12)}, nine), []int{0}},
		{vague([]api.Span{to(17, 18)}, nine, nine), []int{0}},
		{shades(5, 0, 0, 0, to(5, 6)), []int{0}},
	} {
		if l, e := hair.Lacks(x.b); !slices.Equal(l, x.want) || e != api.OK {
			t.Errorf("Lacks %d: %v, %d", i, l, e)
		}
	}
}

// P6.6: Buy.
func TestBuy(t *testing.T) {
	one, four := horse(5, 4, 5), []int{4, 4, 4, 4}
	for i, x := range []struct {
		b           api.HairBook
		shade, want int
	}{
		{example(poor), 0, none}, {example(poor), 1, none}, {example(poor), 2, none}, {example(poor), 3, 4}, {example(poor), 4, 3}, {example(poor), 5, 3}, {example(poor), 6, 3}, {example(poor), 7, 3}, {example(poor), 8, 3}, {example(poor), 9, none}, {example(poor), 20, none},
		// One that need not be bought, of whichever shade.
		{example(), 0, 0}, {example(), 6, 0}, {example(), 20, 0}, {example(short), 6, 0}, {example(horses()), 3, 0}, {example(horses(), hanks()), 3, 0},
		// Without hanks; and the ends of what can be bought.
		{example(hanks()), 6, 18}, {example(hanks()), 5, 18}, {example(hanks()), 3, none}, {example(hanks()), 8, none},
		{plain(nil, horse(1, 1, 5)), 5, 2}, {plain(nil, horse(1, 1, 0)), 0, 2}, {plain(nil, horse(1, 1, 20)), 20, 2}, {plain(nil, horse(1, 1, 21)), 20, none},
		{plain(nil, horse(30, 30, 5)), 5, 60}, {plain(nil, horse(30, 30, 5), horse(1, 1, 5)), 5, none},
		{plain([]int{1}, horse(30, 30, 5), horse(1, 1, 5)), 5, none}, {plain([]int{1, 1}, horse(30, 30, 5), horse(1, 1, 5)), 5, 60},
		{plain([]int{3}, horse(30, 30, 5), horse(1, 3, 5)), 5, none}, {plain([]int{4}, horse(30, 30, 5), horse(1, 3, 5)), 5, 60},
		{changed(plain(nil, horse(20, 10, 25)), dark(4), nearTo(1)), 20, 30}, {changed(plain(nil, horse(20, 10, 25)), dark(4)), 20, none},
		// The one part, the other, or both, whatever else there is.
		{plain([]int{4}, one), 5, 5}, {plain([]int{5}, one), 5, 4}, {plain([]int{3}, one), 5, 9}, {plain([]int{8}, one), 5, 4}, {plain([]int{9}, one), 5, 0},
		{plain([]int{5, 5}, one, one), 5, 8}, {plain([]int{5, 8}, one, one), 5, 5}, {plain([]int{5, 8}, one, one, one), 5, 14},
		// Four hanks with one more.
		{plain(four, horse(5, 5, 5)), 5, 10}, {plain(four, one), 5, 5}, {plain(four, one, one, one), 5, 15}, {plain(four, horse(4, 4, 5), horse(4, 4, 5)), 5, 0}, {plain(four, horse(4, 4, 5), horse(4, 4, 5), horse(3, 2, 5)), 5, 5}, {plain(four, horse(4, 4, 5), horse(4, 4, 5), horse(3, 2, 5)), 6, none},
		// At least so much of the hanks is there, no more; it is bought of just one shade, and just so heavy.
		{vague([]api.Span{to(8, 12)}, one), 5, 4}, {vague([]api.Span{to(4, 8)}, one), 5, 5}, {vague([]api.Span{to(9, 12)}, one), 5, 0},
		// It must match what there is, or have both parts.
		{changed(plain([]int{5}, one), nearTo(1)), 5, 4}, {changed(plain([]int{5}, one), nearTo(1)), 6, 9}, {changed(plain([]int{5}, one), nearTo(1), dark(1)), 4, 4}, {changed(plain([]int{5}, one), nearTo(1), matching(1)), 6, 4}, {changed(plain([]int{5}, one), nearTo(2), matching(1)), 7, 9},
		{changed(plain([]int{5}, one), nearTo(1), matching(1), func(b *api.HairBook) { b.Hanks[0].Shade = to(5, 6) }), 4, 9}, {changed(plain([]int{5}, one), nearTo(1), matching(1), func(b *api.HairBook) { b.Hanks[0].Shade = to(5, 6) }), 5, 4},
	} {
		want, wanted := x.want, api.OK
		if want == none {
			want, wanted = 0, api.ErrNone
		}
		if n, e := hair.Buy(x.b, x.shade); n != want || e != wanted {
			t.Errorf("Buy %d: %d, %d", i, n, e)
		}
	}
}

// P6.7: Perhaps.
func TestPerhaps(t *testing.T) {
	nine := horse(5, 4, 5)
	for i, x := range []struct {
		b    api.HairBook
		want bool
	}{
		{example(), true},
		{example(short), true},
		{example(poor), true},
		{example(horses()), true},
		{example(horses(), hanks()), true},
		{example(hanks()), false},
		{example(func(b *api.HairBook) { b.Horses[1].Shade = 20 }), false},
		{example(poor, func(b *api.HairBook) { b.Hanks[1].Weight = just(7) }), true},
		{example(poor, func(b *api.HairBook) { b.Hanks[1].Weight = just(6) }), false},
		{example(poor, func(b *api.HairBook) { b.Hanks[0].Weight = just(9) }), false},
		// As much as there can be.
		{vague([]api.Span{to(8, 9)}, nine), true},
		{vague([]api.Span{to(5, 9)}, nine), true},
		{vague([]api.Span{to(7, 8)}, nine), false},
		{vague([]api.Span{to(14, 18)}, nine, nine), true},
		{vague([]api.Span{to(13, 17)}, nine, nine), false},
		{vague([]api.Span{to(4, 5), to(3, 4)}, nine), true},
		{vague([]api.Span{to(3, 4), to(3, 4)}, nine), false},
		// Both ends of the shade, and what lies between them.
		{shades(5, 0, 0, 0, to(5, 7)), true},
		{shades(6, 0, 0, 0, to(5, 7)), true},
		{shades(7, 0, 0, 0, to(5, 7)), true},
		{shades(4, 0, 0, 0, to(5, 7)), false},
		{shades(8, 0, 0, 0, to(5, 7)), false},
		{shades(8, 1, 0, 0, to(5, 7)), true},
		{shades(11, 4, 0, 0, to(5, 7)), true},
		{shades(12, 4, 0, 0, to(5, 7)), false},
		{shades(12, 4, 1, 0, to(5, 7)), true},
		{shades(25, 4, 3, 0, to(17, 18)), true},
		{shades(25, 4, 3, 0, to(16, 17)), false},
		{shades(0, 0, 0, 0, to(0, 2)), true},
		// Each horse could be served, but not all of them in one truth.
		{changed(shades(5, 0, 0, 0, to(5, 6)), horses(horse(1, 1, 5), horse(1, 1, 6))), false},
		{changed(shades(5, 1, 0, 0, to(5, 6)), horses(horse(1, 1, 5), horse(1, 1, 6))), true},
		{changed(shades(5, 0, 0, 0, to(5, 6), to(5, 6)), horses(horse(1, 1, 5), horse(1, 1, 6))), true},
		{changed(shades(5, 0, 0, 0, to(5, 6), to(5, 6)), horses(horse(1, 1, 5), horse(1, 1, 6), horse(1, 1, 7))), false},
		{changed(shades(5, 0, 0, 0, to(5, 6), to(5, 6), just(7)), horses(horse(1, 1, 5), horse(1, 1, 6), horse(1, 1, 7))), true},
		{changed(shades(5, 0, 1, 0, to(4, 6)), horses(horse(1, 1, 4), horse(1, 1, 6))), true},
		{changed(shades(5, 0, 1, 0, to(4, 6)), horses(horse(1, 1, 4), horse(1, 1, 7))), false},
		// Two hanks that can be of the same shade, and that cannot.
		{changed(vague([]api.Span{just(5), just(4)}, nine), func(b *api.HairBook) { b.Hanks[0].Shade = to(4, 5) }), true},
		{changed(vague([]api.Span{just(5), just(4)}, nine), func(b *api.HairBook) { b.Hanks[1].Shade = to(3, 4) }), false},
		{changed(vague([]api.Span{just(5), just(4)}, nine), nearTo(3), func(b *api.HairBook) { b.Hanks[1].Shade = to(2, 4) }), false},
		{changed(vague([]api.Span{just(5), just(4)}, nine), nearTo(3), matching(1), func(b *api.HairBook) { b.Hanks[1].Shade = to(2, 4) }), true},
	} {
		if is, e := hair.Perhaps(x.b); is != x.want || e != api.OK {
			t.Errorf("Perhaps %d: %v, %d", i, is, e)
		}
	}
}

// spare returns a book with room behind its lists, into which nothing may be written.
func spare(b api.HairBook) api.HairBook {
	b = clone(b)
	b.Hanks = append(b.Hanks, hank(just(77), just(77)))[:len(b.Hanks)]
	b.Horses = append(b.Horses, horse(77, 77, 77))[:len(b.Horses)]
	return b
}

// isSpare reports whether what lies behind the lists of a book still does.
func isSpare(b api.HairBook) bool {
	n, m := len(b.Hanks), len(b.Horses)
	return b.Hanks[:n+1][n] == hank(just(77), just(77)) && b.Horses[:m+1][m] == horse(77, 77, 77)
}

// P6.8, P2, R4: arguments are not changed, results are new memory, and the same arguments have the same results.
func TestMemory(t *testing.T) {
	for i, b := range append(limits(), example(), example(short), example(poor), example(hanks()), plain([]int{9, 9, 9}, horse(5, 4, 5), horse(5, 4, 5))) {
		b = spare(b)
		before := clone(b)
		for _, plan := range [][]int{{0, 0, 1, 1}, {2, 2, 0, 0}, {0, 0}, {0, 0, 0, 0, 0, 0}, nil} {
			q := question{plan: append(plan, 77)[:len(plan)], shade: 6}
			first, kept := ask(b, q), ask(clone(b), question{plan: slices.Clone(plan), shade: 6})
			if !reflect.DeepEqual(first, kept) {
				t.Errorf("the book %d: %v, then %v", i, kept, first)
			}
			results := [][]int{first.best, first.lacks}
			for k, l := range results {
				for m := range l {
					l[m] = 90 + k
				}
				_ = append(l, 99)
			}
			for k, l := range results {
				if slices.ContainsFunc(l, func(n int) bool { return n != 90+k }) {
					t.Errorf("the book %d: results share memory: %v", i, results)
				}
			}
			if second := ask(b, q); !reflect.DeepEqual(second, kept) {
				t.Errorf("the book %d: %v, then %v", i, kept, second)
			}
			if !slices.Equal(q.plan, plan) || q.plan[:len(plan)+1][len(plan)] != 77 {
				t.Errorf("the plan %v was changed to %v", plan, q.plan)
			}
		}
		if !reflect.DeepEqual(b, before) || !isSpare(b) {
			t.Errorf("%v was changed to %v", before, b)
		}
	}
}

// P6.8: what is done to an argument later does not change a result.
func TestNothingIsRetained(t *testing.T) {
	for _, change := range []change{short, poor} {
		b, q := example(change), question{plan: []int{2, 2, 0, 0}, shade: 6}
		first, kept := ask(b, q), ask(example(change), question{plan: []int{2, 2, 0, 0}, shade: 6})
		clear(b.Hanks)
		clear(b.Horses)
		q.plan[0] = 0
		if !reflect.DeepEqual(first, kept) {
			t.Errorf("%v became %v", kept, first)
		}
		wantErrors(t, "the cleared book", ask(b, q), api.ErrHair)
		if second := ask(example(change), question{plan: []int{2, 2, 0, 0}, shade: 6}); !reflect.DeepEqual(second, kept) {
			t.Errorf("%v, then %v", kept, second)
		}
	}
}

// R3: there is no difference between a nil list and an empty one.
func TestEmptyLists(t *testing.T) {
	for _, c := range [][2]change{
		{hanks(), hanks([]api.HairHank{}...)},
		{horses(), horses([]api.HairHorse{}...)},
		{func(b *api.HairBook) { b.Hanks, b.Horses = nil, nil }, func(b *api.HairBook) { b.Hanks, b.Horses = []api.HairHank{}, []api.HairHorse{} }},
	} {
		for shade := range api.HairShades + 1 {
			first := ask(example(c[0]), question{shade: shade})
			second := ask(example(c[1]), question{plan: []int{}, shade: shade})
			if !reflect.DeepEqual(first, second) {
				t.Errorf("with nil %v, with an empty list %v", first, second)
			}
		}
	}
}
