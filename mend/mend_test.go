package mend_test

import (
	"math"
	"reflect"
	"slices"
	"testing"

	"skewbald/api"
	"skewbald/mend"
)

// to is all numbers from one to another one, and just is one alone.
func to(low, high int) api.Span { return api.Span{Low: low, High: high} }

func just(n int) api.Span { return to(n, n) }

// of is the set of some numbers.
func of(numbers ...int) int {
	set := 0
	for _, n := range numbers {
		set |= 1 << n
	}
	return set
}

// saw is a mark of a kind that can have some values.
func saw(kind int, values ...int) api.MakerMark {
	return api.MakerMark{Kind: kind, Values: of(values...)}
}

func job(kind int, hours, parts api.Span, most int) api.MendJob {
	return api.MendJob{Kind: kind, Hours: hours, Parts: parts, Cap: most}
}

// priced is a job of a kind whose parts cost just so much, and that takes no hours.
func priced(kind, pence, most int) api.MendJob { return job(kind, just(0), just(pence), most) }

// free is the Cap of a job of which nothing is remembered.
const free = api.MendNone

type change func(b *api.MendBook)

// changed returns a changed copy of a book.
func changed(b api.MendBook, changes ...change) api.MendBook {
	b = clone(b)
	for _, c := range changes {
		c(&b)
	}
	return b
}

// example is the book of the chapter's examples, changed.
func example(changes ...change) api.MendBook {
	return changed(api.MendBook{
		Maker: api.MakerBook{
			Makers:  [][]int{{of(0), of(0, 1), of(2)}, {of(1), of(1), of(2)}, {of(0), of(3), of(0, 1)}},
			Seen:    []api.MakerMark{saw(0, 0, 1), saw(1, 1, 3), saw(2, 2)},
			Repairs: 1,
			Fixed:   of(0),
		},
		Jobs:  []api.MendJob{job(1, to(2, 3), to(5, 6), free), job(2, just(1), just(10), 15)},
		Rate:  4,
		Extra: []int{3, 0, 7},
		Coins: []int{1, 3, 12},
	}, changes...)
}

// known is the book of a horse of so many kinds that can be any of so many makers', with the Extra 5 for the first one, 15 for the second one, and so on; nothing was changed. An hour costs 2 pence.
func known(makers, kinds int, list []api.MendJob, changes ...change) api.MendBook {
	b := api.MendBook{Jobs: list, Rate: 2, Coins: []int{1}}
	for n := range makers {
		b.Maker.Makers = append(b.Maker.Makers, slices.Repeat([]int{of(0)}, kinds))
		b.Extra = append(b.Extra, 5+10*n)
	}
	return changed(b, changes...)
}

// sure is such a book of one maker, and one kind.
func sure(list ...api.MendJob) api.MendBook { return known(1, 1, list) }

func makers(l ...[]int) change { return func(b *api.MendBook) { b.Maker.Makers = l } }

func seen(l ...api.MakerMark) change { return func(b *api.MendBook) { b.Maker.Seen = l } }

func more(l ...api.MakerMark) change {
	return func(b *api.MendBook) { b.Maker.Seen = append(b.Maker.Seen, l...) }
}

func repairs(n int) change { return func(b *api.MendBook) { b.Maker.Repairs = n } }

func fixed(kinds ...int) change { return func(b *api.MendBook) { b.Maker.Fixed = of(kinds...) } }

func jobs(l ...api.MendJob) change { return func(b *api.MendBook) { b.Jobs = l } }

func kind(job, n int) change { return func(b *api.MendBook) { b.Jobs[job].Kind = n } }

func hours(job int, s api.Span) change { return func(b *api.MendBook) { b.Jobs[job].Hours = s } }

func parts(job int, s api.Span) change { return func(b *api.MendBook) { b.Jobs[job].Parts = s } }

func most(job, n int) change { return func(b *api.MendBook) { b.Jobs[job].Cap = n } }

func rate(n int) change { return func(b *api.MendBook) { b.Rate = n } }

func extra(l ...int) change { return func(b *api.MendBook) { b.Extra = l } }

func coins(l ...int) change { return func(b *api.MendBook) { b.Coins = l } }

// strict and odd are the changes of the chapter's examples.
func strict(b *api.MendBook) { b.Maker.Repairs = 0 }

func odd(b *api.MendBook) { more(saw(0, 3))(b) }

// nobodys is a horse of which marks do not contradict each other, but that none of the makers can have made: the kind 0 is fixed.
func nobodys(b *api.MendBook) { seen(saw(0, 4))(b); b.Maker.Repairs = 3 }

// answers are the results of all functions for a book, a job and a number of pence, with the error of each.
type answers struct {
	job, bill, loss api.Span
	can             bool
	dear, raise     int
	whose, pay      []int
	errors          [9]api.Errno
}

func ask(b api.MendBook, job, pence int) answers {
	var a answers
	a.errors[0] = mend.Check(b)
	a.job, a.errors[1] = mend.Job(b, job)
	a.bill, a.errors[2] = mend.Bill(b)
	a.loss, a.errors[3] = mend.Loss(b)
	a.can, a.errors[4] = mend.Can(b, pence)
	a.whose, a.errors[5] = mend.Whose(b, pence)
	a.dear, a.errors[6] = mend.Dear(b)
	a.raise, a.errors[7] = mend.Raise(b, job)
	a.pay, a.errors[8] = mend.Pay(b, pence)
	return a
}

// wrongMakers are changes each of which makes the Maker of the example wrong in one place.
func wrongMakers() map[string]change {
	return map[string]change{
		"no makers":            makers(),
		"no makers, no Extra":  func(b *api.MendBook) { b.Maker.Makers, b.Extra = nil, nil },
		"no kinds":             makers(nil, nil, nil),
		"a kind too few":       func(b *api.MendBook) { b.Maker.Makers[1] = []int{2, 2} },
		"a maker of no values": func(b *api.MendBook) { b.Maker.Makers[0][0] = 0 },
		"a maker of the 5":     func(b *api.MendBook) { b.Maker.Makers[2][2] = of(5) },
		"6 makers":             func(b *api.MendBook) { m := b.Maker.Makers; makers(append(m, m...)...)(b); extra(1, 1, 1, 1, 1, 1)(b) },
		"7 kinds":              makers(slices.Repeat([][]int{{1, 1, 1, 1, 1, 1, 1}}, 3)...),
		"9 marks":              seen(slices.Repeat([]api.MakerMark{saw(0, 0)}, 9)...),
		"a mark of the kind 3": more(saw(3, 0)),
		"a mark of no values":  more(saw(0)),
		"Repairs -1":           repairs(-1),
		"Repairs 4":            repairs(4),
		"Fixed 3":              fixed(3),
		"Fixed far below 0":    func(b *api.MendBook) { b.Maker.Fixed = math.MinInt },
		"odd, Repairs 4":       func(b *api.MendBook) { odd(b); b.Maker.Repairs = 4 },
	}
}

// wrongPrices are changes each of which makes the Rate, Extra or Coins of the example wrong in one place.
func wrongPrices() map[string]change {
	all := map[string]change{
		"no Extra":              extra(),
		"an Extra too few":      extra(3, 0),
		"an Extra too many":     extra(3, 0, 7, 0),
		"many Extra":            extra(make([]int, 1000)...),
		"no coins":              coins(),
		"5 coins":               coins(1, 2, 3, 4, 5),
		"many coins":            coins(slices.Repeat([]int{1}, 1000)...),
		"no penny":              coins(2),
		"no penny first":        coins(2, 3, 12),
		"a penny last":          coins(3, 1),
		"the coin 0 first":      coins(0, 1, 3),
		"a coin below 0 first":  coins(-1, 1, 3),
		"a coin far below 0":    coins(math.MinInt, 1),
		"two pennies":           coins(1, 1),
		"the same coin twice":   coins(1, 3, 3),
		"the last coin twice":   coins(1, 3, 12, 12),
		"a lesser coin last":    coins(1, 12, 3),
		"a lesser coin":         coins(1, 12, 3, 13),
		"a penny again":         coins(1, 3, 12, 1),
		"the coin 241":          coins(1, 241),
		"the coin 241 last":     coins(1, 2, 3, 241),
		"the coin 241 not last": coins(1, 241, 242),
		"a coin far above":      coins(1, 2, math.MaxInt),
		"a coin far below":      coins(1, 2, math.MinInt),
	}
	for name, n := range map[string]int{"-1": -1, "21": 21, "far below 0": math.MinInt, "far above": math.MaxInt} {
		all["Rate "+name] = rate(n)
	}
	for name, n := range map[string]int{"-1": -1, "51": 51, "far below 0": math.MinInt, "far above": math.MaxInt} {
		for i := range 3 {
			all["Extra "+name+" of "+string(rune('0'+i))] = func(b *api.MendBook) { b.Extra[i] = n }
		}
	}
	return all
}

// wrongJobs are changes each of which makes one of the Jobs of the example wrong in one place.
func wrongJobs() map[string]change {
	all := map[string]change{
		"no jobs":   jobs(),
		"5 jobs":    jobs(slices.Repeat([]api.MendJob{priced(0, 1, free)}, 5)...),
		"many jobs": jobs(slices.Repeat([]api.MendJob{priced(0, 1, free)}, 1000)...),
	}
	for i := range 2 {
		name := " of a job " + string(rune('0'+i))
		for what, n := range map[string]int{"-1": -1, "3": 3, "6": 6, "far below 0": math.MinInt, "far above": math.MaxInt} {
			all["Kind "+what+name] = kind(i, n)
		}
		for what, s := range map[string]api.Span{
			"too wide": to(2, 6), "far too wide": to(0, 20), "the wrong way around": to(3, 2), "from -1": to(-1, 0), "-1": just(-1), "to 21": to(20, 21), "21": just(21),
			"far below 0": just(math.MinInt), "far above": just(math.MaxInt), "all": to(math.MinInt, math.MaxInt), "all, the wrong way around": to(math.MaxInt, math.MinInt), "from far below 0": to(math.MinInt, 2), "to far above": to(20, math.MaxInt), "to far below 0": to(2, math.MinInt),
		} {
			all["Hours "+what+name] = hours(i, s)
		}
		for what, s := range map[string]api.Span{
			"too wide": to(5, 10), "far too wide": to(0, 99), "the wrong way around": to(6, 5), "from -1": to(-1, 0), "-1": just(-1), "to 100": to(99, 100), "100": just(100),
			"far below 0": just(math.MinInt), "far above": just(math.MaxInt), "all": to(math.MinInt, math.MaxInt), "all, the wrong way around": to(math.MaxInt, math.MinInt), "from far below 0": to(math.MinInt, 2), "to far above": to(99, math.MaxInt), "to far below 0": to(2, math.MinInt),
		} {
			all["Parts "+what+name] = parts(i, s)
		}
		for what, n := range map[string]int{"-2": -2, "1000": 1000, "far below 0": math.MinInt, "far above": math.MaxInt} {
			all["Cap "+what+name] = most(i, n)
		}
	}
	return all
}

// wrongBooks are books each of which is wrong in one place.
func wrongBooks() map[string]api.MendBook {
	books := map[string]api.MendBook{
		"nothing":                  {},
		"only a Maker":             {Maker: example().Maker},
		"of 6 kinds Kind 6":        known(5, 6, []api.MendJob{priced(6, 1, free)}),
		"of 1 kind Kind 1":         known(1, 1, []api.MendJob{priced(1, 1, free)}),
		"of 5 makers 4 Extra":      known(5, 6, []api.MendJob{priced(0, 1, free)}, extra(1, 1, 1, 1)),
		"the last of 4 Jobs wrong": sure(priced(0, 1, free), priced(0, 1, free), priced(0, 1, free), priced(0, 100, free)),
	}
	for _, changes := range []map[string]change{wrongMakers(), wrongPrices(), wrongJobs()} {
		for name, c := range changes {
			books[name] = example(c)
		}
	}
	return books
}

// wantErrors checks that all functions returned one error, and zero values.
func wantErrors(t *testing.T, name string, a answers, want api.Errno) {
	t.Helper()
	for n, e := range a.errors {
		if e != want {
			t.Errorf("%s: the error of the function %d: %d", name, n, e)
		}
	}
	a.errors = [9]api.Errno{}
	wantNothing(t, name, a)
}

// wantNothing checks that all results but the errors are zero values.
func wantNothing(t *testing.T, name string, a answers) {
	t.Helper()
	if len(a.whose)+len(a.pay) > 0 {
		t.Errorf("%s: %v", name, a)
	}
	a.errors, a.whose, a.pay = [9]api.Errno{}, nil, nil
	if !reflect.DeepEqual(a, answers{}) {
		t.Errorf("%s: %v", name, a)
	}
}

// P8.1, P1, R1, R2, R8: a book that is not valid is the first error of all functions, even with wrong questions, and if the horse is nobody's; of several errors in it too.
func TestWrongBooks(t *testing.T) {
	ends := []int{-1, 0, 1, 4, 27, 600, 601, math.MinInt, math.MaxInt}
	for name, b := range wrongBooks() {
		for _, n := range ends {
			for _, pence := range ends {
				wantErrors(t, name, ask(b, n, pence), api.ErrMend)
			}
		}
	}
	for _, changes := range []map[string]change{wrongPrices(), wrongJobs()} {
		for name, c := range changes {
			wantErrors(t, name+", odd", ask(example(c, odd), 0, 27), api.ErrMend)
			wantErrors(t, name+", nobody's", ask(example(c, nobodys), -1, -1), api.ErrMend)
		}
	}
	several := api.MendBook{Maker: api.MakerBook{Makers: [][]int{{0}, {}}, Repairs: -1}, Jobs: []api.MendJob{job(-1, to(1, 0), to(1, 0), -2)}, Rate: -1, Extra: []int{-1}, Coins: []int{0}}
	wantErrors(t, "all is wrong", ask(several, -1, -1), api.ErrMend)
}

// limits are books with the least and the greatest of all numbers, whose horses are somebody's.
func limits() []api.MendBook {
	greatest := job(5, to(17, 20), to(95, 99), 999)
	all := slices.Repeat([]int{31}, 6)
	return []api.MendBook{
		known(1, 1, []api.MendJob{priced(0, 0, free)}, rate(0), extra(0)),
		known(1, 1, []api.MendJob{priced(0, 0, 0)}, rate(0), extra(0)),
		known(1, 1, []api.MendJob{job(0, to(0, 3), to(0, 4), 0)}, rate(20), extra(50), coins(1, 2, 3, 4)),
		known(5, 6, slices.Repeat([]api.MendJob{greatest}, 4), rate(20), extra(50, 50, 50, 50, 50), coins(1, 238, 239, 240)),
		known(5, 6, slices.Repeat([]api.MendJob{greatest}, 4), rate(20), extra(0, 50, 0, 50, 0), repairs(6), coins(1, 240)),
		known(5, 6, []api.MendJob{job(0, just(20), just(99), free), job(1, just(20), just(99), 0), job(2, just(20), just(99), 1), job(3, just(20), just(99), 548)}, rate(20), extra(50, 49, 1, 0, 25), repairs(3), coins(1, 2)),
		known(5, 6, []api.MendJob{priced(0, 0, 999), priced(1, 99, 998)}, makers(all, all, all, all, all), seen(slices.Repeat([]api.MakerMark{saw(5, 4)}, 8)...), repairs(6)),
		known(5, 6, []api.MendJob{priced(0, 1, free), priced(5, 2, free)}, repairs(5), fixed(0, 1, 2, 3, 4, 5), coins(1, 240)),
	}
}

// P8.1, R7: both ends of each limit are valid, and all that lies between them.
func TestRightBooks(t *testing.T) {
	right := func(b api.MendBook) {
		t.Helper()
		if e := mend.Check(b); e != api.OK {
			t.Errorf("Check %v: %d", b, e)
		}
	}
	for _, b := range append(limits(), example(), example(strict), example(odd), example(nobodys)) {
		right(b)
	}
	for many := 1; many <= api.MendJobs; many++ {
		right(example(jobs(slices.Repeat([]api.MendJob{priced(many%3, many, many)}, many)...)))
	}
	for makers := 1; makers <= api.MakerMany; makers++ {
		for kinds := 1; kinds <= api.MakerKinds; kinds++ {
			for n := range kinds {
				right(known(makers, kinds, []api.MendJob{priced(n, 1, free)}))
			}
		}
	}
	for low := range api.MendHours + 1 {
		for high := low; high <= min(low+api.MendLong, api.MendHours); high++ {
			right(example(hours(0, to(low, high)), hours(1, to(low, high)), rate(low)))
		}
	}
	for low := range api.MendParts + 1 {
		for high := low; high <= min(low+api.MendWide, api.MendParts); high++ {
			right(example(parts(0, to(low, high)), parts(1, to(low, high)), extra(low/2, 0, high/2)))
		}
	}
	for n := free; n <= api.MendCap; n++ {
		right(example(most(0, n), most(1, api.MendCap-1-n)))
	}
	for n := 2; n <= api.MendCoin; n++ {
		right(example(coins(1, n)))
		right(example(coins(slices.Compact([]int{1, 2, max(n-1, 2), max(n, 2)})...)))
	}
}

// wantAskErrors checks that a job is the wrong one to be asked for.
func wantAskErrors(t *testing.T, i int, b api.MendBook, job int) {
	t.Helper()
	if s, e := mend.Job(b, job); s != (api.Span{}) || e != api.ErrMendAsk {
		t.Errorf("the book %d: Job %d: %v, %d", i, job, s, e)
	}
	if n, e := mend.Raise(b, job); n != 0 || e != api.ErrMendAsk {
		t.Errorf("the book %d: Raise %d: %d, %d", i, job, n, e)
	}
}

// P8.1 to P8.6, R1, R2: a wrong question comes before a horse that is nobody's, and this before that there is nothing. Whose the horse is does not matter to Pay.
func TestTheOrderOfErrors(t *testing.T) {
	nobodys := []api.MendBook{example(odd), example(nobodys), example(odd, nobodys), example(more(saw(1, 0))), example(more(saw(2, 0))), example(odd, most(1, free)), example(nobodys, most(1, free)),
		// More must have been changed than repairs can have, and something that is fixed.
		known(1, 2, []api.MendJob{priced(0, 9, 0)}, seen(saw(0, 1), saw(1, 1)), repairs(1)),
		known(2, 2, []api.MendJob{priced(0, 9, 0)}, seen(saw(1, 1)), repairs(2), fixed(1)),
	}
	for i, b := range append(append(limits(), example(), example(strict)), nobodys...) {
		for _, n := range []int{-1, len(b.Jobs), 4, 5, math.MinInt, math.MaxInt} {
			wantAskErrors(t, i, b, n)
		}
		for _, pence := range []int{-1, 601, math.MinInt, math.MaxInt} {
			if l, e := mend.Pay(b, pence); len(l) != 0 || e != api.ErrMendAsk {
				t.Errorf("the book %d: Pay %d: %v, %d", i, pence, l, e)
			}
		}
	}
	want := [9]api.Errno{1: api.ErrMendFalse, 2: api.ErrMendFalse, 3: api.ErrMendFalse, 4: api.ErrMendFalse, 5: api.ErrMendFalse, 6: api.ErrMendFalse, 7: api.ErrMendFalse}
	for i, b := range nobodys {
		for n := range b.Jobs {
			for _, pence := range []int{0, 1, 9, 27, 600} {
				a := ask(b, n, pence)
				if a.errors != want || len(a.pay) != len(b.Coins) {
					t.Errorf("the horse %d that is nobody's: %v", i, a)
				}
				a.pay = nil
				wantNothing(t, "nobody's horse", a)
			}
			for _, pence := range []int{-1, 601, math.MinInt, math.MaxInt} {
				a := ask(b, n, pence)
				wanted := want
				wanted[8] = api.ErrMendAsk
				if a.errors != wanted {
					t.Errorf("the horse %d that is nobody's: %v", i, a)
				}
				wantNothing(t, "nobody's horse", a)
			}
		}
	}
}

// P8.1, P8.5: Job and Raise, of each job. What a job costs does not hang on its Cap, nor on other jobs.
func TestJobs(t *testing.T) {
	plain, wide := job(0, just(3), just(4), 12), job(0, to(0, 3), to(4, 8), 12)
	for i, x := range []struct {
		b      api.MendBook
		costs  []api.Span
		raises []int
	}{
		{example(), []api.Span{to(13, 25), to(14, 17)}, []int{0, 2}},
		{example(strict), []api.Span{to(13, 21), to(14, 17)}, []int{0, 2}},
		{example(repairs(2)), []api.Span{to(13, 25), to(14, 17)}, []int{0, 2}},
		{example(most(0, 0), most(1, 0)), []api.Span{to(13, 25), to(14, 17)}, []int{25, 17}},
		{example(most(0, 24), most(1, 16)), []api.Span{to(13, 25), to(14, 17)}, []int{1, 1}},
		{example(most(0, 25), most(1, 17)), []api.Span{to(13, 25), to(14, 17)}, []int{0, 0}},
		{example(most(0, 999), most(1, free)), []api.Span{to(13, 25), to(14, 17)}, []int{0, 0}},
		{example(jobs(example().Jobs[1])), []api.Span{to(14, 17)}, []int{2}},
		// A kind that is fixed is the maker's own: the kind 0, and then the one that was changed with the maker 2 alone.
		{example(kind(0, 0)), []api.Span{to(13, 25), to(14, 17)}, []int{0, 2}},
		{example(kind(0, 0), extra(3, 1, 7)), []api.Span{to(14, 25), to(14, 17)}, []int{0, 2}},
		{example(kind(0, 0), extra(3, 1, 7), fixed(0, 2)), []api.Span{to(14, 21), to(15, 17)}, []int{0, 2}},
		{example(kind(0, 0), extra(3, 1, 7), fixed(2)), []api.Span{to(13, 21), to(15, 17)}, []int{0, 2}},
		// Whoever is not possible costs nothing more.
		{example(more(saw(0, 1))), []api.Span{to(13, 18), just(14)}, []int{0, 0}},
		{example(extra(3, 0, 50)), []api.Span{to(13, 68), to(14, 17)}, []int{0, 2}},
		{example(extra(3, 0, 50), strict), []api.Span{to(13, 21), to(14, 17)}, []int{0, 2}},
		{example(extra(3, 0, 50), repairs(2)), []api.Span{to(13, 68), to(14, 17)}, []int{0, 2}},
		// A kind that must have been changed, can have been, and cannot.
		{known(1, 1, []api.MendJob{plain}), []api.Span{just(15)}, []int{3}},
		{known(1, 1, []api.MendJob{plain}, repairs(1)), []api.Span{to(10, 15)}, []int{3}},
		{known(1, 1, []api.MendJob{plain}, repairs(1), fixed(0)), []api.Span{just(15)}, []int{3}},
		{known(1, 1, []api.MendJob{plain}, repairs(1), seen(saw(0, 1))), []api.Span{just(10)}, []int{0}},
		// Just as many must have been changed as can have been; another kind is the maker's own.
		{known(1, 2, []api.MendJob{plain, job(1, just(3), just(4), 9)}, repairs(1), seen(saw(1, 1))), []api.Span{just(15), just(10)}, []int{3, 1}},
		{known(1, 2, []api.MendJob{plain, job(1, just(3), just(4), 9)}, repairs(2), seen(saw(1, 1))), []api.Span{to(10, 15), just(10)}, []int{3, 1}},
		{known(1, 3, []api.MendJob{job(2, just(3), just(4), 9)}, repairs(2), seen(saw(0, 1), saw(1, 1))), []api.Span{just(15)}, []int{6}},
		{known(1, 3, []api.MendJob{job(2, just(3), just(4), 9)}, repairs(3), seen(saw(0, 1), saw(1, 1))), []api.Span{to(10, 15)}, []int{6}},
		// Several makers.
		{known(3, 1, []api.MendJob{plain}), []api.Span{to(15, 35)}, []int{23}},
		{known(3, 1, []api.MendJob{plain}, repairs(1)), []api.Span{to(10, 35)}, []int{23}},
		{known(3, 1, []api.MendJob{plain}, extra(20, 8, 11)), []api.Span{to(18, 30)}, []int{18}},
		// Hours and parts of one number, and of as many as can be, and an hour for nothing.
		{sure(wide), []api.Span{to(9, 19)}, []int{7}},
		{sure(job(0, to(17, 20), to(95, 99), 100)), []api.Span{to(134, 144)}, []int{44}},
		{known(1, 1, []api.MendJob{wide}, rate(0)), []api.Span{to(9, 13)}, []int{1}},
		{known(1, 1, []api.MendJob{wide}, rate(0), extra(0)), []api.Span{to(4, 8)}, []int{0}},
		{known(1, 1, []api.MendJob{wide}, rate(20)), []api.Span{to(9, 73)}, []int{61}},
		{known(1, 1, []api.MendJob{priced(0, 0, free)}, extra(0)), []api.Span{just(0)}, []int{0}},
		{known(1, 1, []api.MendJob{priced(0, 0, 0)}, extra(0)), []api.Span{just(0)}, []int{0}},
		{known(1, 1, []api.MendJob{priced(0, 1, 0)}, extra(0)), []api.Span{just(1)}, []int{1}},
		// The dearest job that there can be.
		{known(1, 1, []api.MendJob{job(0, to(17, 20), to(95, 99), 0), job(0, just(20), just(99), 999)}, rate(20), extra(50)), []api.Span{to(485, 549), just(549)}, []int{549, 0}},
		// Jobs of the same kind.
		{known(1, 1, []api.MendJob{plain, wide, plain, wide}, repairs(1)), []api.Span{to(10, 15), to(4, 19), to(10, 15), to(4, 19)}, []int{3, 7, 3, 7}},
	} {
		for n, want := range x.costs {
			if s, e := mend.Job(x.b, n); s != want || e != api.OK {
				t.Errorf("Job %d of %d: %v, %d", i, n, s, e)
			}
			if pence, e := mend.Raise(x.b, n); pence != x.raises[n] || e != api.OK {
				t.Errorf("Raise %d of %d: %d, %d", i, n, pence, e)
			}
		}
	}
}

// nothing stands for the job of which the most is lost if nothing is lost of any.
const nothing = -1

// P8.2, P8.4: Bill, Loss and Dear.
func TestBills(t *testing.T) {
	two := []api.MendJob{priced(0, 10, free), priced(1, 20, free)}
	for i, x := range []struct {
		b          api.MendBook
		bill, loss api.Span
		dear       int
	}{
		{example(), to(27, 39), to(0, 2), 1},
		{example(strict), to(27, 36), to(0, 2), 1},
		{example(most(1, free)), to(27, 39), just(0), nothing},
		{example(most(1, 17)), to(27, 39), just(0), nothing},
		{example(most(1, 16)), to(27, 39), to(0, 1), 1},
		{example(most(1, 0)), to(13, 25), to(14, 17), 1},
		{example(most(1, 999)), to(27, 39), just(0), nothing},
		{example(most(0, 20)), to(27, 35), to(0, 5), 0},
		{example(most(0, 0), most(1, 0)), just(0), to(27, 39), 0},
		// As much is lost of several jobs, at most; and at least less of the first one.
		{example(most(0, 20), most(1, 12)), to(25, 32), to(2, 7), 0},
		{example(most(0, 21), most(1, 12)), to(25, 33), to(2, 6), 1},
		{sure(priced(0, 5, 7), priced(0, 6, 8), priced(0, 7, 9)), just(24), just(9), 0},
		{sure(priced(0, 5, 8), priced(0, 6, 8), priced(0, 7, 9)), just(25), just(8), 1},
		{sure(priced(0, 5, free), priced(0, 6, 8), priced(0, 8, 9), priced(0, 9, 10)), just(37), just(11), 2},
		{sure(priced(0, 5, free), priced(0, 6, 11), priced(0, 8, 999), priced(0, 9, 13)), just(47), just(1), 3},
		{sure(job(0, to(0, 3), just(0), 5), priced(0, 6, 5)), just(10), to(6, 12), 0},
		{sure(job(0, to(0, 3), just(0), 6), priced(0, 6, 5)), to(10, 11), to(6, 11), 1},
		// One job, two and four.
		{sure(job(0, just(3), just(4), free)), just(15), just(0), nothing},
		{sure(job(0, just(3), just(4), 10)), just(10), just(5), 0},
		{sure(job(0, to(0, 3), to(4, 8), 12)), to(9, 12), to(0, 7), 0},
		{sure(slices.Repeat([]api.MendJob{job(0, to(0, 3), to(4, 8), 12)}, 4)...), to(36, 48), to(0, 28), 0},
		// Kinds that were changed in one truth, but not both; or jobs of the same kind.
		{known(1, 2, two), just(40), just(0), nothing},
		{known(1, 2, two, repairs(1)), to(35, 40), just(0), nothing},
		{known(1, 2, two, repairs(2)), to(30, 40), just(0), nothing},
		{known(1, 2, two, repairs(2), fixed(1)), to(35, 40), just(0), nothing},
		{known(1, 2, two, repairs(1), seen(saw(0, 1))), just(35), just(0), nothing},
		{known(1, 2, two, repairs(2), seen(saw(0, 1))), to(30, 35), just(0), nothing},
		{known(1, 2, two, kind(0, 1), repairs(1)), to(30, 40), just(0), nothing},
		{known(1, 2, two, kind(0, 1), repairs(1), seen(saw(0, 1))), just(40), just(0), nothing},
		// One maker for all jobs: the one who costs the more for one of them costs the less for another one.
		{known(2, 2, two, extra(5, 15), makers([]int{of(0), of(0)}, []int{of(1), of(0)}), seen(saw(0, 0), saw(1, 0)), repairs(1)), to(35, 45), just(0), nothing},
		{known(2, 2, two, extra(5, 0), makers([]int{of(0), of(0)}, []int{of(0), of(1)}), seen(saw(1, 0, 1))), to(30, 40), just(0), nothing},
		{known(5, 1, []api.MendJob{priced(0, 1, 20), priced(0, 2, 30), priced(0, 3, free)}), to(21, 98), to(0, 43), 0},
		// All numbers are the greatest ones, or the least ones.
		{limits()[0], just(0), just(0), nothing},
		{limits()[2], just(0), to(50, 114), 0},
		{limits()[3], to(1940, 2196), just(0), nothing},
		{limits()[4], to(1740, 2196), just(0), nothing},
	} {
		if s, e := mend.Bill(x.b); s != x.bill || e != api.OK {
			t.Errorf("Bill %d: %v, %d", i, s, e)
		}
		if s, e := mend.Loss(x.b); s != x.loss || e != api.OK {
			t.Errorf("Loss %d: %v, %d", i, s, e)
		}
		want, wanted := x.dear, api.OK
		if x.dear == nothing {
			want, wanted = 0, api.ErrNone
		}
		if n, e := mend.Dear(x.b); n != want || e != wanted {
			t.Errorf("Dear %d: %d, %d", i, n, e)
		}
	}
}

// P8.3: Whose and Can. All numbers of pence that are not told cannot be.
func TestWhose(t *testing.T) {
	two := []api.MendJob{priced(0, 10, free), priced(1, 20, free)}
	for i, x := range []struct {
		b    api.MendBook
		want map[int][]int
	}{
		{example(), map[int][]int{27: {1}, 28: {0, 1}, 29: {0}, 30: {0}, 31: {0, 1}, 32: {0, 1}, 33: {0}, 34: {0, 2}, 35: {0, 2}, 36: {0}, 38: {2}, 39: {2}}},
		{example(strict), map[int][]int{27: {1}, 28: {1}, 31: {0, 1}, 32: {0, 1}, 35: {0}, 36: {0}}},
		// A bill between two that can be: by hours, by what was changed, by makers, by two jobs of the same kind.
		{sure(job(0, to(0, 3), just(4), free)), map[int][]int{9: {0}, 11: {0}, 13: {0}, 15: {0}}},
		{known(1, 1, []api.MendJob{job(0, to(0, 3), to(4, 6), free)}, rate(5)), map[int][]int{9: {0}, 10: {0}, 11: {0}, 14: {0}, 15: {0}, 16: {0}, 19: {0}, 20: {0}, 21: {0}, 24: {0}, 25: {0}, 26: {0}}},
		{known(1, 1, []api.MendJob{job(0, to(0, 3), to(4, 6), free)}, rate(0)), map[int][]int{9: {0}, 10: {0}, 11: {0}}},
		{known(1, 1, []api.MendJob{job(0, to(0, 3), to(4, 6), 15)}, rate(5)), map[int][]int{9: {0}, 10: {0}, 11: {0}, 14: {0}, 15: {0}}},
		{known(3, 1, []api.MendJob{priced(0, 1, free)}), map[int][]int{6: {0}, 16: {1}, 26: {2}}},
		{known(3, 1, []api.MendJob{priced(0, 1, free)}, repairs(1)), map[int][]int{1: {0, 1, 2}, 6: {0}, 16: {1}, 26: {2}}},
		{known(3, 1, []api.MendJob{priced(0, 1, free)}, extra(9, 0, 9)), map[int][]int{1: {1}, 10: {0, 2}}},
		{known(3, 1, []api.MendJob{priced(0, 1, 6)}), map[int][]int{6: {0, 1, 2}}},
		{known(3, 1, []api.MendJob{priced(0, 1, 0)}), map[int][]int{0: {0, 1, 2}}},
		{known(5, 1, []api.MendJob{priced(0, 0, 30)}, extra(0, 50, 40, 30, 20)), map[int][]int{0: {0}, 20: {4}, 30: {1, 2, 3}}},
		{known(1, 1, two, kind(1, 0), repairs(1)), map[int][]int{30: {0}, 40: {0}}},
		{known(1, 2, two), map[int][]int{40: {0}}},
		{known(1, 2, two, repairs(1)), map[int][]int{35: {0}, 40: {0}}},
		{known(1, 2, two, repairs(2)), map[int][]int{30: {0}, 35: {0}, 40: {0}}},
		{known(1, 2, two, repairs(2), fixed(0)), map[int][]int{35: {0}, 40: {0}}},
		// One maker made the whole horse.
		{known(2, 2, two), map[int][]int{40: {0}, 60: {1}}},
		{known(2, 2, two, repairs(1)), map[int][]int{35: {0}, 40: {0}, 45: {1}, 60: {1}}},
		{known(2, 2, two, repairs(2), seen(saw(0, 1))), map[int][]int{30: {0, 1}, 35: {0}, 45: {1}}},
		{known(2, 2, two, makers([]int{of(0), of(0)}, []int{of(1), of(0)}), seen(saw(0, 0), saw(1, 0)), repairs(1)), map[int][]int{35: {0}, 40: {0}, 45: {1}}},
		{known(2, 2, two, makers([]int{of(0), of(0)}, []int{of(1), of(0)}), seen(saw(0, 0), saw(1, 0))), map[int][]int{40: {0}}},
		// Each job takes its own hours and parts.
		{sure(job(0, to(0, 1), just(0), free), job(0, to(0, 1), just(0), 6)), map[int][]int{10: {0}, 11: {0}, 12: {0}, 13: {0}}},
		{known(1, 1, []api.MendJob{job(0, to(0, 1), just(0), free), job(0, to(0, 2), to(0, 1), free)}, rate(10), extra(0)), map[int][]int{0: {0}, 1: {0}, 10: {0}, 11: {0}, 20: {0}, 21: {0}, 30: {0}, 31: {0}}},
		{limits()[0], map[int][]int{0: {0}}},
		{limits()[1], map[int][]int{0: {0}}},
		{limits()[2], map[int][]int{0: {0}}},
	} {
		for pence := -3; pence <= 130; pence++ {
			wantWhose(t, i, x.b, pence, x.want[pence])
		}
		for _, pence := range []int{-600, 999, 2196, 2197, 4392, math.MinInt, math.MaxInt, math.MinInt + 1, math.MaxInt - 1} {
			wantWhose(t, i, x.b, pence, nil)
		}
	}
	for i, pence := range []int{1939, 1940, 1941, 2000, 2195, 2196, 2197} {
		var want []int
		if pence >= 1940 && pence <= 2196 {
			want = []int{0, 1, 2, 3, 4}
		}
		wantWhose(t, i, limits()[3], pence, want)
	}
}

// wantWhose checks with which makers the bill can be just so many pence.
func wantWhose(t *testing.T, i int, b api.MendBook, pence int, want []int) {
	t.Helper()
	if l, e := mend.Whose(b, pence); !slices.Equal(l, want) || e != api.OK {
		t.Errorf("Whose %d, %d: %v, %d, want %v", i, pence, l, e, want)
	}
	if is, e := mend.Can(b, pence); is != (len(want) > 0) || e != api.OK {
		t.Errorf("Can %d, %d: %v, %d", i, pence, is, e)
	}
}

// P8.6: Pay.
func TestPay(t *testing.T) {
	for i, x := range []struct {
		coins []int
		pence int
		want  []int
	}{
		{[]int{1, 3, 12}, 17, []int{2, 1, 1}},
		{[]int{1, 3, 12}, 15, []int{0, 1, 1}},
		{[]int{1, 3, 12}, 8, []int{2, 2, 0}},
		{[]int{1, 3, 12}, 24, []int{0, 0, 2}},
		{[]int{1, 3, 12}, 0, []int{0, 0, 0}},
		{[]int{1, 3, 12}, 1, []int{1, 0, 0}},
		{[]int{1, 3, 12}, 600, []int{0, 0, 50}},
		{[]int{1, 3, 12}, 599, []int{2, 3, 49}},
		{[]int{1}, 0, []int{0}},
		{[]int{1}, 1, []int{1}},
		{[]int{1}, 600, []int{600}},
		{[]int{1, 240}, 239, []int{239, 0}},
		{[]int{1, 240}, 240, []int{0, 1}},
		{[]int{1, 240}, 600, []int{120, 2}},
		{[]int{1, 238, 239, 240}, 477, []int{0, 1, 1, 0}},
		{[]int{1, 238, 239, 240}, 600, []int{120, 0, 0, 2}},
		// The greatest coin first is not the fewest.
		{[]int{1, 3, 4}, 6, []int{0, 2, 0}},
		{[]int{1, 4, 6}, 8, []int{0, 2, 0}},
		{[]int{1, 5, 8}, 10, []int{0, 2, 0}},
		{[]int{1, 5, 6, 9}, 11, []int{0, 1, 1, 0}},
		{[]int{1, 7, 10}, 14, []int{0, 2, 0}},

		{[]int{1, 100, 199}, 600, []int{0, 6, 0}},
		// Several lists are as few: the first one has the least of the first coin, then of the second one.
		{[]int{1, 2, 3}, 4, []int{0, 2, 0}},
		{[]int{1, 2, 3}, 2, []int{0, 1, 0}},
		{[]int{1, 2, 3, 4}, 5, []int{0, 1, 1, 0}},
		{[]int{1, 2, 3, 4}, 6, []int{0, 0, 2, 0}},
		{[]int{1, 2, 3, 4}, 9, []int{0, 0, 3, 0}},
		{[]int{1, 2, 3, 4}, 10, []int{0, 0, 2, 1}},
		{[]int{1, 2, 4, 5}, 6, []int{0, 1, 1, 0}},
		{[]int{1, 2, 4, 5}, 13, []int{0, 0, 2, 1}},
		{[]int{1, 5, 6, 9}, 10, []int{0, 2, 0, 0}},
		{[]int{1, 5, 9, 13}, 18, []int{0, 0, 2, 0}},
		{[]int{1, 4, 5, 6}, 10, []int{0, 0, 2, 0}},
		{[]int{1, 7, 10}, 588, []int{0, 4, 56}},
	} {
		for k, b := range []api.MendBook{example(coins(x.coins...)), example(coins(x.coins...), odd), example(coins(x.coins...), nobodys), changed(limits()[4], coins(x.coins...))} {
			if l, e := mend.Pay(b, x.pence); !slices.Equal(l, x.want) || e != api.OK {
				t.Errorf("Pay %d of the book %d: %v, %d", i, k, l, e)
			}
		}
	}
	for pence := range api.MendPayment + 1 {
		if l, e := mend.Pay(example(), pence); len(l) != 3 || l[0]+3*l[1]+12*l[2] != pence || e != api.OK {
			t.Errorf("Pay %d: %v, %d", pence, l, e)
		}
	}
}

// spare returns a book with room behind its lists, into which nothing may be written.
func spare(b api.MendBook) api.MendBook {
	b = clone(b)
	b.Jobs = append(b.Jobs, priced(7, 7, 7))[:len(b.Jobs)]
	b.Extra = append(b.Extra, 77)[:len(b.Extra)]
	b.Coins = append(b.Coins, 77)[:len(b.Coins)]
	b.Maker.Seen = append(b.Maker.Seen, saw(7, 7))[:len(b.Maker.Seen)]
	for i, marks := range b.Maker.Makers {
		b.Maker.Makers[i] = append(marks, 77)[:len(marks)]
	}
	return b
}

// isSpare reports whether what lies behind the lists of a book still does.
func isSpare(b api.MendBook) bool {
	for _, l := range append([][]int{b.Extra, b.Coins}, b.Maker.Makers...) {
		if n := len(l); l[:n+1][n] != 77 {
			return false
		}
	}
	n, m := len(b.Jobs), len(b.Maker.Seen)
	return b.Jobs[:n+1][n] == priced(7, 7, 7) && b.Maker.Seen[:m+1][m] == saw(7, 7)
}

// P8.7, P2, R4: arguments are not changed, results are new memory, and the same arguments have the same results.
func TestMemory(t *testing.T) {
	for i, b := range append(limits(), example(), example(strict), example(odd), example(nobodys), example(coins(1, 2, 3, 4))) {
		b = spare(b)
		before := clone(b)
		pence := 31
		if s, e := mend.Bill(b); e == api.OK {
			pence = s.Low
		}
		first, kept := ask(b, 0, pence), ask(clone(b), 0, pence)
		if !reflect.DeepEqual(first, kept) {
			t.Errorf("the book %d: %v, then %v", i, kept, first)
		}
		results := [][]int{first.whose, first.pay}
		for k, l := range results {
			for m := range l {
				l[m] = 90 + k
			}
			_ = append(l, 99)
		}
		for k, l := range results {
			if slices.ContainsFunc(l, func(n int) bool { return n != 90+k }) {
				t.Errorf("the book %d: results share memory: %v", i, results)
			}
		}
		if second := ask(b, 0, pence); !reflect.DeepEqual(second, kept) {
			t.Errorf("the book %d: %v, then %v", i, kept, second)
		}
		if !reflect.DeepEqual(b, before) || !isSpare(b) {
			t.Errorf("%v was changed to %v", before, b)
		}
	}
}

// P8.7: what is done to an argument later does not change a result.
func TestNothingIsRetained(t *testing.T) {
	b := example()
	first, kept := ask(b, 1, 34), ask(example(), 1, 34)
	for _, marks := range b.Maker.Makers {
		clear(marks)
	}
	clear(b.Maker.Makers)
	clear(b.Maker.Seen)
	clear(b.Jobs)
	clear(b.Extra)
	clear(b.Coins)
	if !reflect.DeepEqual(first, kept) {
		t.Errorf("%v became %v", kept, first)
	}
	if e := mend.Check(b); e != api.ErrMend {
		t.Errorf("Check of the cleared book: %d", e)
	}
	if second := ask(example(), 1, 34); !reflect.DeepEqual(second, kept) {
		t.Errorf("%v, then %v", kept, second)
	}
}

// R3: there is no difference between a nil list and an empty one.
func TestEmptyLists(t *testing.T) {
	for pence := range 50 {
		empty := ask(example(seen([]api.MakerMark{}...)), 0, pence)
		b := example()
		b.Maker.Seen = nil
		if a := ask(b, 0, pence); !reflect.DeepEqual(a, empty) {
			t.Errorf("with nil %v, with an empty list %v", a, empty)
		}
	}
	for _, b := range []api.MendBook{example(jobs([]api.MendJob{}...)), example(extra([]int{}...)), example(coins([]int{}...)), example(makers([][]int{}...), extra([]int{}...))} {
		wantErrors(t, "empty lists", ask(b, 0, 0), api.ErrMend)
	}
}
