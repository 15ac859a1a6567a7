package maker_test

import (
	"math"
	"reflect"
	"slices"
	"testing"

	"skewbald/api"
	"skewbald/maker"
)

// of is the set of some numbers.
func of(numbers ...int) int {
	set := 0
	for _, n := range numbers {
		set |= 1 << n
	}
	return set
}

// saw is a mark of a kind that can have some values.
func saw(kind int, values ...int) api.MakerMark {
	return api.MakerMark{Kind: kind, Values: of(values...)}
}

type change func(b *api.MakerBook)

// changed returns a changed copy of a book.
func changed(b api.MakerBook, changes ...change) api.MakerBook {
	b = clone(b)
	for _, c := range changes {
		c(&b)
	}
	return b
}

// example is the book of the chapter's examples, changed.
func example(changes ...change) api.MakerBook {
	return changed(api.MakerBook{
		Makers:  [][]int{{of(0), of(0, 1), of(2)}, {of(1), of(1), of(2)}, {of(0), of(3), of(0, 1)}},
		Seen:    []api.MakerMark{saw(0, 0, 1), saw(1, 1, 3), saw(2, 2)},
		Repairs: 1,
		Fixed:   of(0),
	}, changes...)
}

// ones is a book of makers each of whom has one value of each kind, without marks, repairs, and fixed kinds, changed.
func ones(makers [][]int, changes ...change) api.MakerBook {
	var b api.MakerBook
	for _, values := range makers {
		var marks []int
		for _, value := range values {
			marks = append(marks, of(value))
		}
		b.Makers = append(b.Makers, marks)
	}
	return changed(b, changes...)
}

// same is a book of so many makers, whose horses are the same: they have a set of each of so many kinds.
func same(makers, kinds, set int, changes ...change) api.MakerBook {
	var b api.MakerBook
	for range makers {
		b.Makers = append(b.Makers, slices.Repeat([]int{set}, kinds))
	}
	return changed(b, changes...)
}

func makers(l ...[]int) change { return func(b *api.MakerBook) { b.Makers = l } }

func seen(l ...api.MakerMark) change { return func(b *api.MakerBook) { b.Seen = l } }

func more(l ...api.MakerMark) change {
	return func(b *api.MakerBook) { b.Seen = append(b.Seen, l...) }
}

func repairs(n int) change { return func(b *api.MakerBook) { b.Repairs = n } }

func fixed(kinds ...int) change { return func(b *api.MakerBook) { b.Fixed = of(kinds...) } }

// fixedSet is like fixed, for a number that may be no set of kinds.
func fixedSet(set int) change { return func(b *api.MakerBook) { b.Fixed = set } }

// strict and odd are the changes of the chapter's examples.
func strict(b *api.MakerBook) { b.Repairs = 0 }

func odd(b *api.MakerBook) { more(saw(0, 3))(b) }

// answers are the results of all functions for a book, two makers and a kind, with the error of each.
type answers struct {
	right, told          bool
	who, values, wrong   []int
	needs, changed, look int
	errors               [9]api.Errno
}

func ask(b api.MakerBook, one, other, kind int) answers {
	var a answers
	a.errors[0] = maker.Check(b)
	a.right, a.errors[1] = maker.Right(b)
	a.who, a.errors[2] = maker.Who(b)
	a.needs, a.errors[3] = maker.Needs(b, one)
	a.changed, a.errors[4] = maker.Changed(b, one, kind)
	a.values, a.errors[5] = maker.Values(b, kind)
	a.told, a.errors[6] = maker.Told(b, one, other)
	a.look, a.errors[7] = maker.Look(b)
	a.wrong, a.errors[8] = maker.Wrong(b)
	return a
}

// wrongBooks are books each of which is wrong in one place.
func wrongBooks() map[string]api.MakerBook {
	all := map[string]api.MakerBook{
		"nothing":              {},
		"only marks":           {Seen: []api.MakerMark{saw(0, 0)}},
		"6 makers":             same(6, 3, 1),
		"many makers":          same(1000, 3, 1),
		"many empty makers":    {Makers: make([][]int, 1000)},
		"7 kinds":              same(2, 7, 1),
		"many kinds":           same(1, 1000, 1),
		"no kinds":             same(2, 0, 1),
		"no kinds, but fixed":  same(1, 0, 1, fixed(0)),
		"no kinds, but a mark": same(1, 0, 1, seen(saw(0, 0))),
		"of 6 kinds Fixed 6":   same(5, 6, 31, fixed(6)),
		"of 6 kinds Kind 6":    same(5, 6, 31, seen(saw(6, 0))),
		"of 6 kinds Repairs 7": same(5, 6, 31, repairs(7)),
		"of 1 kind Fixed 1":    same(1, 1, 1, fixed(1)),
		"of 1 kind Kind 1":     same(1, 1, 1, seen(saw(1, 0))),
		"of 1 kind Repairs 2":  same(1, 1, 1, repairs(2)),
	}
	for name, c := range map[string]change{
		"no makers":            makers(),
		"a maker of no kinds":  func(b *api.MakerBook) { b.Makers[1] = nil },
		"the first of none":    func(b *api.MakerBook) { b.Makers[0] = nil },
		"a kind too few":       func(b *api.MakerBook) { b.Makers[1] = []int{2, 2} },
		"a kind too many":      func(b *api.MakerBook) { b.Makers[2] = []int{2, 2, 2, 2} },
		"the first's too few":  func(b *api.MakerBook) { b.Makers[0], b.Seen = []int{1, 1}, nil },
		"the first's too many": func(b *api.MakerBook) { b.Makers[0] = []int{1, 1, 1, 1} },
		"no values":            func(b *api.MakerBook) { b.Makers[0][0] = 0 },
		"no values at the end": func(b *api.MakerBook) { b.Makers[2][2] = 0 },
		"the value 5":          func(b *api.MakerBook) { b.Makers[0][1] = 32 },
		"the values 0 and 5":   func(b *api.MakerBook) { b.Makers[2][2] = 33 },
		"values below 0":       func(b *api.MakerBook) { b.Makers[1][1] = -1 },
		"values far below 0":   func(b *api.MakerBook) { b.Makers[1][0] = math.MinInt },
		"values far above":     func(b *api.MakerBook) { b.Makers[1][2] = math.MaxInt },
		"9 marks":              seen(slices.Repeat([]api.MakerMark{saw(0, 0)}, 9)...),
		"many marks":           seen(slices.Repeat([]api.MakerMark{saw(0, 0)}, 1000)...),
		"Kind -1":              more(saw(-1, 0)),
		"Kind 3":               more(saw(3, 0)),
		"the first Kind 3":     func(b *api.MakerBook) { b.Seen[0].Kind = 3 },
		"Kind far below 0":     more(saw(math.MinInt, 0)),
		"Kind far above":       more(saw(math.MaxInt, 0)),
		"a mark of no values":  more(saw(0)),
		"a mark of the 5":      more(saw(0, 5)),
		"a mark of all and 5":  more(saw(0, 0, 1, 2, 3, 4, 5)),
		"the first of none, 0": func(b *api.MakerBook) { b.Seen[0].Values = 0 },
		"a mark below 0":       more(api.MakerMark{Values: -1}),
		"a mark far below 0":   more(api.MakerMark{Values: math.MinInt}),
		"a mark far above":     more(api.MakerMark{Values: math.MaxInt}),
		"Repairs -1":           repairs(-1),
		"Repairs 4":            repairs(4),
		"Repairs far below 0":  repairs(math.MinInt),
		"Repairs far above":    repairs(math.MaxInt),
		"Fixed -1":             fixedSet(-1),
		"Fixed 3":              fixed(3),
		"Fixed 0 and 3":        fixed(0, 3),
		"Fixed far below 0":    fixedSet(math.MinInt),
		"Fixed far above":      fixedSet(math.MaxInt),
		"odd, and Repairs -1":  func(b *api.MakerBook) { odd(b); b.Repairs = -1 },
		"odd, and Fixed 3":     func(b *api.MakerBook) { odd(b); b.Fixed = of(3) },
	} {
		all[name] = example(c)
	}
	return all
}

// wantErrors checks that all functions returned one error, and zero values.
func wantErrors(t *testing.T, name string, a answers, want api.Errno) {
	t.Helper()
	for n, e := range a.errors {
		if e != want {
			t.Errorf("%s: the error of the function %d: %d", name, n, e)
		}
	}
	if len(a.who)+len(a.values)+len(a.wrong) > 0 {
		t.Errorf("%s: %v", name, a)
	}
	a.errors, a.who, a.values, a.wrong = [9]api.Errno{}, nil, nil, nil
	if !reflect.DeepEqual(a, answers{}) {
		t.Errorf("%s: %v", name, a)
	}
}

// P5.1, P1, R1, R2, R8: a book that is not valid is the first error of all functions, even with wrong questions; of several errors in it too.
func TestWrongBooks(t *testing.T) {
	ends := []int{-1, 0, 1, 3, 5, 6, math.MinInt, math.MaxInt}
	for name, b := range wrongBooks() {
		for _, n := range ends {
			for _, kind := range ends {
				wantErrors(t, name, ask(b, n, 1, kind), api.ErrMaker)
				wantErrors(t, name, ask(b, 0, n, kind), api.ErrMaker)
			}
		}
	}
	several := api.MakerBook{Makers: [][]int{{0}, {}}, Seen: []api.MakerMark{saw(9)}, Repairs: -1, Fixed: -1}
	wantErrors(t, "all is wrong", ask(several, -1, -1, -1), api.ErrMaker)
}

// limits are books with the least and the greatest of all numbers.
func limits() []api.MakerBook {
	eight := func(m api.MakerMark) change { return seen(slices.Repeat([]api.MakerMark{m}, 8)...) }
	return []api.MakerBook{
		same(1, 1, of(0)),
		same(1, 1, of(4), seen(saw(0, 4)), repairs(1), fixed(0)),
		same(1, 6, 31, fixedSet(63)),
		same(5, 1, 31, repairs(1)),
		same(5, 6, 31, eight(saw(0, 0, 1, 2, 3, 4)), repairs(6), fixedSet(63)),
		same(5, 6, of(4), eight(saw(5, 4)), repairs(6)),
		same(5, 6, of(0), eight(saw(5, 4)), repairs(5), fixed(0, 1, 2, 3, 4)),
		same(2, 6, of(0, 4), seen(saw(0, 4), saw(5, 0))),
	}
}

// P5.1, R7: both ends of each limit are valid, and all that lies between them.
func TestRightBooks(t *testing.T) {
	for i, b := range append(limits(), example(), example(strict), example(odd)) {
		if e := maker.Check(b); e != api.OK {
			t.Errorf("the right book %d: %d", i, e)
		}
	}
	for many := 1; many <= api.MakerMany; many++ {
		for kinds := 1; kinds <= api.MakerKinds; kinds++ {
			for marks := range api.MakerSeen + 1 {
				b := same(many, kinds, 1+(many*kinds+marks)%31, seen(slices.Repeat([]api.MakerMark{saw(kinds-1, marks%5)}, marks)...))
				if e := maker.Check(b); e != api.OK {
					t.Errorf("%d makers, %d kinds, %d marks: %d", many, kinds, marks, e)
				}
			}
			for set := range 1 << kinds {
				if e := maker.Check(same(many, kinds, 1, repairs(set%(kinds+1)), fixedSet(set))); e != api.OK {
					t.Errorf("%d makers, %d kinds, Fixed %d: %d", many, kinds, set, e)
				}
			}
		}
	}
	for set := 1; set <= 31; set++ {
		if e := maker.Check(same(1, 2, set, seen(api.MakerMark{Kind: 1, Values: set}))); e != api.OK {
			t.Errorf("the set %d: %d", set, e)
		}
	}
}

// P5.3 to P5.6, R1, R2: a wrong question comes before marks that contradict each other, and these before that there is nothing; with an error all results are zero.
func TestTheOrderOfErrors(t *testing.T) {
	nobodys := example(seen(saw(0, 4)))
	for i, b := range append(limits(), example(), example(strict), example(odd), nobodys) {
		many, kinds := len(b.Makers), kinds(b)
		for _, n := range []int{-1, many, 5, 6, math.MinInt, math.MaxInt} {
			for _, kind := range []int{0, -1} {
				wantAskErrors(t, i, b, n, kind)
			}
			wantToldError(t, i, b, n, 0)
			wantToldError(t, i, b, 0, n)
			wantToldError(t, i, b, n, n)
		}
		for _, kind := range []int{-1, kinds, 6, math.MinInt, math.MaxInt} {
			if n, e := maker.Changed(b, many-1, kind); n != 0 || e != api.ErrMakerAsk {
				t.Errorf("the book %d: Changed of the kind %d: %d, %d", i, kind, n, e)
			}
			if l, e := maker.Values(b, kind); len(l) != 0 || e != api.ErrMakerAsk {
				t.Errorf("the book %d: Values of the kind %d: %v, %d", i, kind, l, e)
			}
		}
		for n := range many {
			wantToldError(t, i, b, n, n)
		}
	}
	// The kind 0 is fixed, and no maker's is so, even if the marks of the kind 1 did not contradict each other.
	for i, b := range []api.MakerBook{example(odd), example(more(saw(2, 4))), changed(nobodys, more(saw(1, 0), saw(1, 1)))} {
		want := [9]api.Errno{1: api.OK, 2: api.ErrMakerFalse, 3: api.ErrMakerFalse, 4: api.ErrMakerFalse, 5: api.ErrMakerFalse, 7: api.ErrMakerFalse}
		for n := range 3 {
			for kind := range 3 {
				a := ask(b, n, (n+1)%3, kind)
				if a.errors != want || a.right || a.needs != 0 || a.changed != 0 || a.look != 0 || len(a.who)+len(a.values) > 0 {
					t.Errorf("the false book %d: %v", i, a)
				}
			}
		}
	}
}

// wantAskErrors checks that a maker is the wrong one to be asked for.
func wantAskErrors(t *testing.T, i int, b api.MakerBook, number, kind int) {
	t.Helper()
	if n, e := maker.Needs(b, number); n != 0 || e != api.ErrMakerAsk {
		t.Errorf("the book %d: Needs of %d: %d, %d", i, number, n, e)
	}
	if n, e := maker.Changed(b, number, kind); n != 0 || e != api.ErrMakerAsk {
		t.Errorf("the book %d: Changed of %d, %d: %d, %d", i, number, kind, n, e)
	}
}

func wantToldError(t *testing.T, i int, b api.MakerBook, one, other int) {
	t.Helper()
	if is, e := maker.Told(b, one, other); is || e != api.ErrMakerAsk {
		t.Errorf("the book %d: Told %d and %d: %v, %d", i, one, other, is, e)
	}
}

// P5.1: Right.
func TestRight(t *testing.T) {
	for i, x := range []struct {
		b    api.MakerBook
		want bool
	}{
		{example(), true},
		{example(strict), true},
		{example(odd), false},
		{example(seen()), true},
		// Nobody's horse has marks that can be right.
		{example(seen(saw(0, 4))), true},
		// Two marks each of which has a value in common with each other one, all three have none.
		{example(seen(saw(1, 0, 1), saw(1, 1, 2), saw(1, 0, 2))), false},
		{example(seen(saw(1, 0, 1), saw(1, 1, 2), saw(1, 1, 3))), true},
		// Marks of different kinds do not contradict each other.
		{example(seen(saw(0, 0), saw(1, 1), saw(2, 2))), true},
		{example(seen(saw(0, 0), saw(1, 1), saw(2, 2), saw(2, 3))), false},
		{same(1, 6, 1, seen(saw(5, 4), saw(5, 3))), false},
		{same(1, 1, 1, seen(slices.Repeat([]api.MakerMark{saw(0, 4)}, 8)...)), true},
		{same(1, 1, 1, seen(append(slices.Repeat([]api.MakerMark{saw(0, 4)}, 7), saw(0, 0))...)), false},
	} {
		if is, e := maker.Right(x.b); is != x.want || e != api.OK {
			t.Errorf("Right %d: %v, %d", i, is, e)
		}
	}
}

// P5.2, P5.3: Who and Needs. If no changes are enough, none are needed here.
func TestWho(t *testing.T) {
	for i, x := range []struct {
		b     api.MakerBook
		who   []int
		needs []int
	}{
		{example(), []int{0, 1, 2}, []int{0, 0, 1}},
		{example(strict), []int{0, 1}, []int{0, 0, 1}},
		{example(seen()), []int{0, 1, 2}, []int{0, 0, 0}},
		{example(seen(), strict), []int{0, 1, 2}, []int{0, 0, 0}},
		// The kind 0 is fixed, whatever repairs can have changed, and then is not.
		{example(more(saw(0, 0))), []int{0, 2}, []int{0, none, 1}},
		{example(more(saw(0, 0)), repairs(3)), []int{0, 2}, []int{0, none, 1}},
		{example(more(saw(0, 0)), fixed()), []int{0, 1, 2}, []int{0, 1, 1}},
		{example(more(saw(0, 0)), fixed(1)), []int{0, 1, 2}, []int{0, 1, 1}},
		{example(more(saw(0, 0)), fixed(1), strict), []int{0}, []int{0, 1, 1}},
		{example(fixed(2)), []int{0, 1}, []int{0, 0, none}},
		{example(fixed(0, 1, 2)), []int{0, 1}, []int{0, 0, none}},
		{example(seen(saw(0, 4))), nil, []int{none, none, none}},
		{example(seen(saw(0, 4)), fixed(1, 2)), []int{0, 1, 2}, []int{1, 1, 1}},
		// More is needed than repairs can have changed, by one, and not.
		{example(seen(saw(1, 4), saw(2, 4))), nil, []int{2, 2, 2}},
		{example(seen(saw(1, 4), saw(2, 4)), repairs(2)), []int{0, 1, 2}, []int{2, 2, 2}},
		{example(seen(saw(0, 4), saw(1, 4), saw(2, 4)), fixed(), repairs(2)), nil, []int{3, 3, 3}},
		{example(seen(saw(0, 4), saw(1, 4), saw(2, 4)), fixed(), repairs(3)), []int{0, 1, 2}, []int{3, 3, 3}},
		{example(seen(saw(0, 1), saw(1, 3), saw(2, 2)), fixed()), []int{1}, []int{2, 1, 2}},
		// All marks of a kind together, not each one by itself.
		{example(seen(saw(1, 0, 3), saw(1, 0, 2)), strict), []int{0}, []int{0, 1, 1}},
		{example(seen(saw(1, 1, 3), saw(1, 0, 3)), strict), []int{2}, []int{1, 1, 0}},
		// Makers whose horses are the same, one maker, and the most.
		{same(2, 2, of(1), seen(saw(0, 1))), []int{0, 1}, []int{0, 0}},
		{same(1, 1, of(0), seen(saw(0, 1))), nil, []int{1}},
		{same(1, 1, of(0), seen(saw(0, 1)), repairs(1)), []int{0}, []int{1}},
		{same(1, 1, of(0), seen(saw(0, 1)), repairs(1), fixed(0)), nil, []int{none}},
		{limits()[6], []int{0, 1, 2, 3, 4}, []int{1, 1, 1, 1, 1}},
		{ones([][]int{{0}, {1}, {2}, {3}, {4}}, seen(saw(0, 0, 2, 4))), []int{0, 2, 4}, []int{0, 1, 0, 1, 0}},
		{ones([][]int{{0, 0}, {0, 1}, {1, 0}, {1, 1}}, seen(saw(0, 0), saw(1, 0)), repairs(1)), []int{0, 1, 2}, []int{0, 1, 1, 2}},
	} {
		if l, e := maker.Who(x.b); !slices.Equal(l, x.who) || e != api.OK {
			t.Errorf("Who %d: %v, %d", i, l, e)
		}
		for number, want := range x.needs {
			wanted := api.OK
			if want == none {
				want, wanted = 0, api.ErrNone
			}
			// It is asked whatever Repairs is.
			for n := range kinds(x.b) + 1 {
				if n, e := maker.Needs(changed(x.b, repairs(n)), number); n != want || e != wanted {
					t.Errorf("Needs %d of %d: %d, %d", i, number, n, e)
				}
			}
		}
	}
	for _, b := range []api.MakerBook{example(odd), example(odd, strict), example(odd, fixed())} {
		if l, e := maker.Who(b); len(l) > 0 || e != api.ErrMakerFalse {
			t.Errorf("Who of the odd book: %v, %d", l, e)
		}
	}
}

// P5.4: Changed. Of a maker who is not possible nothing is told.
func TestChanged(t *testing.T) {
	for i, x := range []struct {
		b    api.MakerBook
		want [][]int
	}{
		{example(), [][]int{{0, 1, 1}, {0, 1, 1}, {0, 0, 2}}},
		{example(strict), [][]int{{0, 0, 0}, {0, 0, 0}, nil}},
		{example(fixed()), [][]int{{1, 1, 1}, {1, 1, 1}, {0, 0, 2}}},
		{example(fixed(), repairs(2)), [][]int{{1, 1, 1}, {1, 1, 1}, {1, 1, 2}}},
		{example(repairs(2)), [][]int{{0, 1, 1}, {0, 1, 1}, {0, 1, 2}}},
		{example(fixed(0, 1), repairs(3)), [][]int{{0, 0, 1}, {0, 0, 1}, {0, 0, 2}}},
		{example(fixed(2), repairs(3)), [][]int{{1, 1, 0}, {1, 1, 0}, nil}},
		{example(seen()), [][]int{{0, 1, 1}, {0, 1, 1}, {0, 1, 1}}},
		{example(seen(), strict), [][]int{{0, 0, 0}, {0, 0, 0}, {0, 0, 0}}},
		{example(more(saw(0, 0))), [][]int{{0, 1, 1}, nil, {0, 0, 2}}},
		{example(more(saw(0, 0)), fixed()), [][]int{{1, 1, 1}, {2, 0, 0}, {0, 0, 2}}},
		{example(more(saw(0, 0)), fixed(), repairs(2)), [][]int{{1, 1, 1}, {2, 1, 1}, {1, 1, 2}}},
		// All that must have been changed, and just as much as can have been.
		{example(seen(saw(1, 4), saw(2, 4)), repairs(2)), [][]int{{0, 2, 2}, {0, 2, 2}, {0, 2, 2}}},
		{example(seen(saw(1, 4), saw(2, 4)), fixed(), repairs(2)), [][]int{{0, 2, 2}, {0, 2, 2}, {0, 2, 2}}},
		{example(seen(saw(1, 4), saw(2, 4)), fixed(), repairs(3)), [][]int{{1, 2, 2}, {1, 2, 2}, {1, 2, 2}}},
		{example(seen(saw(1, 4), saw(2, 4)), repairs(1)), [][]int{nil, nil, nil}},
		{example(seen(saw(0, 4)), repairs(3)), [][]int{nil, nil, nil}},
		// A kind that was changed can have a value of the maker's, too.
		{same(1, 1, 31, repairs(1)), [][]int{{1}}},
		{same(1, 1, of(0), seen(saw(0, 0)), repairs(1)), [][]int{{1}}},
		{same(1, 1, of(0), seen(saw(0, 1)), repairs(1)), [][]int{{2}}},
		{same(1, 1, of(0), seen(saw(0, 0)), repairs(1), fixed(0)), [][]int{{0}}},
	} {
		for number, l := range x.want {
			for kind := range kinds(x.b) {
				want, wanted := 0, api.ErrNone
				if l != nil {
					want, wanted = l[kind], api.OK
				}
				if n, e := maker.Changed(x.b, number, kind); n != want || e != wanted {
					t.Errorf("Changed %d of %d, %d: %d, %d", i, number, kind, n, e)
				}
			}
		}
	}
}

// P5.5: Values.
func TestValues(t *testing.T) {
	all := []int{0, 1, 2, 3, 4}
	for i, x := range []struct {
		b    api.MakerBook
		want [][]int
	}{
		{example(), [][]int{{0, 1}, {1, 3}, {2}}},
		{example(strict), [][]int{{0, 1}, {1}, {2}}},
		{example(seen()), [][]int{{0, 1}, all, all}},
		{example(seen(), strict), [][]int{{0, 1}, {0, 1, 3}, {0, 1, 2}}},
		{example(seen(), fixed()), [][]int{all, all, all}},
		{example(seen(), fixed(0, 1, 2), repairs(3)), [][]int{{0, 1}, {0, 1, 3}, {0, 1, 2}}},
		{example(seen(saw(2, 0)), strict), [][]int{{0}, {3}, {0}}},
		{example(seen(saw(2, 0))), [][]int{{0, 1}, all, {0}}},
		// What must have been changed can be all that was seen of it, and then no other kind more than the maker's.
		{example(seen(saw(2, 3, 4))), [][]int{{0, 1}, {0, 1, 3}, {3, 4}}},
		{example(seen(saw(2, 3, 4)), repairs(2)), [][]int{{0, 1}, all, {3, 4}}},
		{example(seen(saw(2, 3, 4)), strict), [][]int{nil, nil, nil}},
		{example(seen(saw(0, 4))), [][]int{nil, nil, nil}},
		{example(seen(saw(0, 4)), repairs(3)), [][]int{nil, nil, nil}},
		// Only those of makers who are possible.
		{example(more(saw(0, 0)), strict), [][]int{{0}, {1}, {2}}},
		{ones([][]int{{0, 1}, {1, 2}, {1, 4}, {2, 0}}, seen(saw(0, 1, 3))), [][]int{{1}, {2, 4}}},
		{same(5, 6, of(1, 4)), slices.Repeat([][]int{{1, 4}}, 6)},
	} {
		for kind, want := range x.want {
			if l, e := maker.Values(x.b, kind); !slices.Equal(l, want) || e != api.OK {
				t.Errorf("Values %d of %d: %v, %d", i, kind, l, e)
			}
		}
	}
	for kind := range 3 {
		if l, e := maker.Values(example(odd), kind); len(l) > 0 || e != api.ErrMakerFalse {
			t.Errorf("Values of %d of the odd book: %v, %d", kind, l, e)
		}
	}
}

// P5.6: Told, whichever of both is named first, and whatever was seen.
func TestTold(t *testing.T) {
	for i, x := range []struct {
		b          api.MakerBook
		one, other int
		want       bool
	}{
		{example(), 0, 1, true},
		{example(), 0, 2, false},
		{example(), 1, 2, true},
		{example(strict), 0, 2, true},
		{example(repairs(3)), 0, 1, true},
		{example(fixed(1, 2)), 0, 1, false},
		{example(fixed(1, 2)), 0, 2, true},
		// Two kinds can have been changed, one if it is the one maker's, another one if it is the other's.
		{example(fixed()), 0, 1, false},
		{example(fixed()), 0, 2, false},
		{example(fixed()), 1, 2, true},
		{example(fixed(), repairs(2)), 1, 2, false},
		{example(fixed(), strict), 0, 1, true},
		{ones([][]int{{0, 0, 0, 0}, {1, 1, 1, 1}}, repairs(2)), 0, 1, false},
		{ones([][]int{{0, 0, 0, 0}, {1, 1, 1, 1}}, repairs(2), fixed(3)), 0, 1, true},
		{ones([][]int{{0, 0, 0, 0, 0}, {1, 1, 1, 1, 1}}, repairs(2)), 0, 1, true},
		{ones([][]int{{0, 0, 0, 0, 0, 0}, {1, 1, 1, 1, 1, 1}}, repairs(3)), 0, 1, false},
		{ones([][]int{{0, 0, 0, 0, 0, 0}, {1, 1, 1, 1, 1, 1}}, repairs(2)), 0, 1, true},
		{ones([][]int{{0, 0, 0, 0, 4}, {1, 1, 1, 1, 4}}, repairs(2), fixed(4)), 0, 1, false},
		// Makers whose horses are the same, or some of them.
		{same(2, 3, of(0)), 0, 1, false},
		{same(5, 6, of(4), fixedSet(63)), 3, 4, false},
		{same(2, 1, of(0), makers([]int{of(0, 1)}, []int{of(1, 2)})), 0, 1, false},
		{same(2, 1, of(0), makers([]int{of(0, 1)}, []int{of(2, 3)})), 0, 1, true},
	} {
		for _, marks := range [][]api.MakerMark{x.b.Seen, nil, {saw(0, 4)}, {saw(0, 0), saw(0, 1)}} {
			b := changed(x.b, seen(marks...))
			if is, e := maker.Told(b, x.one, x.other); is != x.want || e != api.OK {
				t.Errorf("Told %d: %v, %d", i, is, e)
			}
			if is, e := maker.Told(b, x.other, x.one); is != x.want || e != api.OK {
				t.Errorf("Told %d, the other way around: %v, %d", i, is, e)
			}
		}
	}
}

// P5.7: Look.
func TestLook(t *testing.T) {
	for i, x := range []struct {
		b    api.MakerBook
		want int
		e    api.Errno
	}{
		{example(), 0, api.OK},
		{example(strict), 0, api.OK},
		{example(odd), 0, api.ErrMakerFalse},
		{example(seen()), 0, api.OK},
		{example(seen(), strict), 0, api.OK},
		{example(more(saw(0, 0)), fixed()), 1, api.OK},
		{example(seen(saw(0, 0)), strict), 1, api.OK},
		// Fewer than two makers.
		{example(more(saw(0, 0)), strict), 0, api.ErrNone},
		{example(seen(saw(0, 4))), 0, api.ErrNone},
		{same(1, 6, of(0)), 0, api.ErrNone},
		{example(makers([]int{of(0), of(0, 1), of(2)}), fixed()), 0, api.ErrNone},
		// Makers whose horses are the same: no kind is better than the first one.
		{same(2, 1, of(0)), 0, api.OK},
		{same(5, 6, of(1, 4), repairs(3)), 0, api.OK},
		// The last kind alone tells makers apart, and the first one of two that do.
		{ones([][]int{{0, 0, 0}, {0, 0, 1}}), 2, api.OK},
		{ones([][]int{{0, 0, 0, 0}, {0, 1, 0, 1}}), 1, api.OK},
		{ones([][]int{{0, 0, 0, 0, 0, 0}, {0, 0, 0, 0, 0, 4}}), 5, api.OK},
		// The worst of all values counts: not the best one, nor how many values there are.
		{ones([][]int{{0, 0}, {0, 0}, {0, 0}, {0, 1}, {1, 1}}), 1, api.OK},
		{ones([][]int{{0, 0}, {0, 0}, {0, 1}, {1, 1}, {2, 1}}), 0, api.OK},
		{ones([][]int{{0, 0}, {0, 0}, {0, 0}, {1, 1}, {2, 1}}), 0, api.OK},
		{ones([][]int{{0, 0}, {0, 0}, {0, 1}, {0, 1}, {4, 1}}), 1, api.OK},
		// What was seen of a kind already: to look at it again tells no more.
		{ones([][]int{{0, 0}, {1, 0}, {1, 1}}, seen(saw(0, 1))), 1, api.OK},
		{ones([][]int{{0, 0}, {1, 1}, {2, 1}}, seen(saw(0, 0, 1))), 0, api.OK},
		// If repairs can have changed a kind it tells nothing, but a fixed one does.
		{ones([][]int{{0, 0}, {1, 1}}, repairs(1)), 0, api.OK},
		{ones([][]int{{0, 0}, {1, 1}}, repairs(1), fixed(1)), 1, api.OK},
		{ones([][]int{{0, 0}, {1, 1}}, repairs(2), fixed(1)), 1, api.OK},
		// More than eight marks, if it were one.
		{ones([][]int{{0, 0}, {0, 1}}, seen(slices.Repeat([]api.MakerMark{saw(0, 0, 1)}, 8)...)), 1, api.OK},
	} {
		if n, e := maker.Look(x.b); n != x.want || e != x.e {
			t.Errorf("Look %d: %d, %d", i, n, e)
		}
	}
}

// P5.8: Wrong.
func TestWrong(t *testing.T) {
	eight := slices.Repeat([]api.MakerMark{saw(0, 1)}, 8)
	crossed := seen(saw(0, 0), saw(0, 1), saw(1, 0), saw(1, 1))
	for i, x := range []struct {
		b    api.MakerBook
		want []int
	}{
		{example(), nil},
		{example(strict), nil},
		{example(seen()), nil},
		{example(odd), []int{3}},
		{example(odd, strict), []int{3}},
		{example(odd, fixed(), strict), []int{3}},
		{example(odd, fixed()), []int{0}},
		{example(seen(saw(0, 4))), []int{0}},
		{example(seen(saw(0, 4)), fixed()), nil},
		// No more than repairs can explain.
		{example(seen(saw(1, 4), saw(2, 4)), repairs(2)), nil},
		{example(seen(saw(1, 4), saw(2, 4))), []int{0}},
		{example(seen(saw(1, 4), saw(2, 4)), strict), []int{0, 1}},
		{example(seen(saw(1, 4), saw(2, 4)), fixed(1)), []int{0}},
		{example(seen(saw(1, 4), saw(2, 4)), fixed(2)), []int{1}},
		{example(seen(saw(1, 4), saw(2, 4)), fixed(1, 2), repairs(3)), []int{0, 1}},
		// Marks that do not contradict each other, but fit nobody; and some that do, but only one of them fits somebody.
		{example(seen(saw(0, 1), saw(2, 0)), strict), []int{0}},
		{example(seen(saw(0, 0), saw(2, 0), saw(2, 1)), strict), []int{1}},
		{ones([][]int{{0}}, seen(saw(0, 0), saw(0, 1))), []int{1}},
		{ones([][]int{{1}}, seen(saw(0, 0), saw(0, 1))), []int{0}},
		{ones([][]int{{0}}, seen(saw(0, 3), saw(0, 4)), repairs(1)), []int{0}},
		{ones([][]int{{0}}, seen(saw(0, 3), saw(0, 4))), []int{0, 1}},
		// Of two lists the first one, not the one with the least numbers at its end.
		{ones([][]int{{1, 0}, {0, 1}}, crossed), []int{0, 3}},
		{ones([][]int{{0, 0}, {1, 1}}, crossed), []int{0, 2}},
		{ones([][]int{{0, 1}}, crossed), []int{1, 2}},
		{ones([][]int{{0, 0}}, crossed), []int{1, 3}},
		// The fewest, even if a longer list comes before them.
		{ones([][]int{{0}, {1}}, seen(saw(0, 0), saw(0, 0), saw(0, 1))), []int{2}},
		{ones([][]int{{0}, {1}}, seen(saw(0, 1), saw(0, 0), saw(0, 0))), []int{0}},
		{ones([][]int{{0}, {1}}, seen(saw(0, 0), saw(0, 1), saw(0, 0), saw(0, 1))), []int{0, 2}},
		// All of them, and all but one.
		{ones([][]int{{0}}, seen(eight...), repairs(1), fixed(0)), []int{0, 1, 2, 3, 4, 5, 6, 7}},
		{ones([][]int{{0}}, seen(append(slices.Clone(eight[:7]), saw(0, 0))...)), []int{0, 1, 2, 3, 4, 5, 6}},
		{ones([][]int{{0}}, seen(append([]api.MakerMark{saw(0, 0)}, eight[:7]...)...)), []int{1, 2, 3, 4, 5, 6, 7}},
		{ones([][]int{{0}}, seen(eight...), repairs(1)), nil},
	} {
		if l, e := maker.Wrong(x.b); !slices.Equal(l, x.want) || e != api.OK {
			t.Errorf("Wrong %d: %v, %d", i, l, e)
		}
	}
}

// spare returns a book with room behind its lists, into which nothing may be written.
func spare(b api.MakerBook) api.MakerBook {
	b = clone(b)
	b.Seen = append(b.Seen, saw(7, 7))[:len(b.Seen)]
	b.Makers = append(b.Makers, []int{77})[:len(b.Makers)]
	for i, marks := range b.Makers {
		b.Makers[i] = append(marks, 77)[:len(marks)]
	}
	return b
}

// isSpare reports whether what lies behind the lists of a book still does.
func isSpare(b api.MakerBook) bool {
	for _, marks := range b.Makers {
		if n := len(marks); marks[:n+1][n] != 77 {
			return false
		}
	}
	n, m := len(b.Makers), len(b.Seen)
	return b.Makers[:n+1][n][0] == 77 && b.Seen[:m+1][m] == saw(7, 7)
}

// P5.9, P2, R4: arguments are not changed, results are new memory, and the same arguments have the same results.
func TestMemory(t *testing.T) {
	for i, b := range append(limits(), example(), example(strict), example(odd), example(seen()), example(seen(saw(1, 4), saw(2, 4)), strict)) {
		b = spare(b)
		before := clone(b)
		first := ask(b, 0, len(b.Makers)-1, kinds(b)-1)
		kept := ask(clone(b), 0, len(b.Makers)-1, kinds(b)-1)
		if !reflect.DeepEqual(first, kept) {
			t.Errorf("the book %d: %v, then %v", i, kept, first)
		}
		results := [][]int{first.who, first.values, first.wrong}
		for k, l := range results {
			for m := range l {
				l[m] = 90 + k
			}
			_ = append(l, 99)
		}
		for k, l := range results {
			if slices.ContainsFunc(l, func(n int) bool { return n != 90+k }) {
				t.Errorf("the book %d: results share memory: %v", i, results)
			}
		}
		if second := ask(b, 0, len(b.Makers)-1, kinds(b)-1); !reflect.DeepEqual(second, kept) {
			t.Errorf("the book %d: %v, then %v", i, kept, second)
		}
		if !reflect.DeepEqual(b, before) || !isSpare(b) {
			t.Errorf("%v was changed to %v", before, b)
		}
	}
}

// P5.9: what is done to an argument later does not change a result.
func TestNothingIsRetained(t *testing.T) {
	b := example(odd, fixed(1))
	first, who := ask(b, 0, 2, 1), ask(example(), 0, 2, 1)
	kept, whoKept := ask(example(odd, fixed(1)), 0, 2, 1), ask(example(), 0, 2, 1)
	for _, marks := range b.Makers {
		clear(marks)
	}
	clear(b.Seen)
	if !reflect.DeepEqual(first, kept) || !reflect.DeepEqual(who, whoKept) {
		t.Errorf("%v became %v", kept, first)
	}
	if e := maker.Check(b); e != api.ErrMaker {
		t.Errorf("Check of the cleared book: %d", e)
	}
	clear(b.Makers)
	if second := ask(example(odd, fixed(1)), 0, 2, 1); !reflect.DeepEqual(second, kept) {
		t.Errorf("%v, then %v", kept, second)
	}
}

// R3: there is no difference between a nil list and an empty one.
func TestEmptyLists(t *testing.T) {
	for kind := range 3 {
		empty := ask(example(seen([]api.MakerMark{}...)), 0, 1, kind)
		b := example()
		b.Seen = nil
		if a := ask(b, 0, 1, kind); !reflect.DeepEqual(a, empty) {
			t.Errorf("with nil %v, with an empty list %v", a, empty)
		}
	}
	for _, l := range [][][]int{nil, {}, {nil}, {{}}, {{}, nil}} {
		wantErrors(t, "no kinds", ask(api.MakerBook{Makers: l}, 0, 1, 0), api.ErrMaker)
	}
}
