package coat_test

import (
	"math"
	"reflect"
	"slices"
	"testing"

	"skewbald/api"
	"skewbald/coat"
)

// The sets of weathers.
const (
	isDry  = 1 << api.CoatDry
	isFair = 1 << api.CoatFair
	isDamp = 1 << api.CoatDamp
	mixed  = isDry | isDamp
	any3   = isDry | isFair | isDamp
)

func to(low, high int) api.Span { return api.Span{Low: low, High: high} }

func just(n int) api.Span { return to(n, n) }

// kind is a coat with what it needs, and what it gains.
func kind(need, dry, fair, damp int) api.CoatKind {
	return api.CoatKind{Need: need, Gain: [3]int{dry, fair, damp}}
}

type change func(b *api.CoatBook)

// changed returns a changed copy of a book.
func changed(b api.CoatBook, changes ...change) api.CoatBook {
	b = clone(b)
	for _, c := range changes {
		c(&b)
	}
	return b
}

// example is the book of the chapter's examples, changed.
func example(changes ...change) api.CoatBook {
	return changed(api.CoatBook{
		Coats:   []api.CoatKind{kind(6, 3, 2, 1), kind(4, 0, 1, 4)},
		Weather: []int{mixed, mixed, mixed, mixed, isFair, isFair, isFair, isFair},
		Hands:   1<<8 - 1,
	}, changes...)
}

// plain is a book of so many fair hours, with a hand in all of them and one coat that needs a point for an hour, changed.
func plain(hours int, changes ...change) api.CoatBook {
	return changed(example(weather(slices.Repeat([]int{isFair}, hours)...), coats(kind(1, 1, 1, 1))), changes...)
}

func coats(l ...api.CoatKind) change { return func(b *api.CoatBook) { b.Coats = l } }

// weather is another one, with a hand in each hour.
func weather(sets ...int) change {
	return func(b *api.CoatBook) { b.Weather, b.Hands = sets, 1<<len(sets)-1 }
}

// hands are the hours in which one is there.
func hands(hours ...int) change {
	return func(b *api.CoatBook) {
		b.Hands = 0
		for _, h := range hours {
			b.Hands |= 1 << h
		}
	}
}

func start(hour int) change { return func(b *api.CoatBook) { b.Start = hour } }

// single and shift are the changes of the chapter's examples.
func single(b *api.CoatBook) { b.Coats = b.Coats[:1] }

func shift(b *api.CoatBook) { hands(0, 4)(b) }

// answers are the results of all functions for a book, a coat and a time.
type answers struct {
	laid, dry, many      api.Span
	can, late            int
	laying, worst        []int
	check, e, f, g, h, i api.Errno
	j, k                 api.Errno
}

func ask(b api.CoatBook, number, time int) answers {
	var a answers
	a.check = coat.Check(b)
	a.laid, a.e = coat.Laid(b, number)
	a.dry, a.f = coat.Dry(b, number)
	a.can, a.g = coat.Can(b, number, time)
	a.many, a.h = coat.Many(b)
	a.laying, a.i = coat.Laying(b)
	a.worst, a.j = coat.Worst(b)
	a.late, a.k = coat.Late(b, time)
	return a
}

// wantAskErrors checks that all functions that ask for a coat return an error and zero values.
func wantAskErrors(t *testing.T, name string, b api.CoatBook, number, time int, want api.Errno) {
	t.Helper()
	a := ask(b, number, time)
	if a.laid != just(0) || a.e != want {
		t.Errorf("%s: Laid %d: %v, %d", name, number, a.laid, a.e)
	}
	if a.dry != just(0) || a.f != want {
		t.Errorf("%s: Dry %d: %v, %d", name, number, a.dry, a.f)
	}
	if a.can != 0 || a.g != want {
		t.Errorf("%s: Can %d, %d: %d, %d", name, number, time, a.can, a.g)
	}
}

// wantTimeErrors checks that all functions that ask for a time return an error and zero values.
func wantTimeErrors(t *testing.T, name string, b api.CoatBook, number, time int, want api.Errno) {
	t.Helper()
	a := ask(b, number, time)
	if a.can != 0 || a.g != want {
		t.Errorf("%s: Can %d, %d: %d, %d", name, number, time, a.can, a.g)
	}
	if a.late != 0 || a.k != want {
		t.Errorf("%s: Late %d: %d, %d", name, time, a.late, a.k)
	}
}

// wrongBooks are books each of which is wrong in one place.
func wrongBooks() map[string]api.CoatBook {
	all := map[string]api.CoatBook{"nothing": {}}
	for name, c := range map[string]change{
		"no coats":              coats(),
		"6 coats":               coats(slices.Repeat([]api.CoatKind{kind(1, 1, 1, 1)}, 6)...),
		"many coats":            coats(make([]api.CoatKind, 1000)...),
		"Need 0":                coats(kind(0, 1, 1, 1)),
		"Need below 0":          coats(kind(math.MinInt, 1, 1, 1)),
		"Need 41":               coats(kind(41, 1, 1, 1)),
		"Need 41 of the last":   coats(kind(1, 1, 1, 1), kind(41, 1, 1, 1)),
		"Gain -1 of dry":        coats(kind(1, -1, 1, 1)),
		"Gain -1 of fair":       coats(kind(1, 1, -1, 1)),
		"Gain -1 of damp":       coats(kind(1, 1, 1, -1)),
		"Gain 10 of dry":        coats(kind(1, 10, 1, 1)),
		"Gain 10 of fair":       coats(kind(1, 1, 10, 1)),
		"Gain 10 of damp":       coats(kind(1, 1, 1, 10)),
		"Gain 10 of the last":   coats(kind(1, 1, 1, 1), kind(1, 1, 1, math.MaxInt)),
		"no hours":              weather(),
		"37 hours":              weather(slices.Repeat([]int{isFair}, 37)...),
		"many hours":            func(b *api.CoatBook) { b.Weather = make([]int, 1000) },
		"no weather":            func(b *api.CoatBook) { b.Weather[3] = 0 },
		"the weather 8":         func(b *api.CoatBook) { b.Weather[0] = 8 },
		"the weather 9":         func(b *api.CoatBook) { b.Weather[0] = 9 },
		"the weather -1":        func(b *api.CoatBook) { b.Weather[7] = -1 },
		"the weather far below": func(b *api.CoatBook) { b.Weather[7] = math.MinInt },
		"a hand in the hour 8":  func(b *api.CoatBook) { b.Hands = 1 << 8 },
		"a hand too far":        func(b *api.CoatBook) { b.Hands |= 1 << 9 },
		"Hands -1":              func(b *api.CoatBook) { b.Hands = -1 },
		"Hands far below 0":     func(b *api.CoatBook) { b.Hands = math.MinInt },
		"Hands far above":       func(b *api.CoatBook) { b.Hands = math.MaxInt },
		"Start -1":              start(-1),
		"Start at the end":      start(8),
		"Start far below 0":     start(math.MinInt),
		"Start far above":       start(math.MaxInt),
	} {
		all[name] = example(c)
	}
	all["36 hours, a hand in one more"] = plain(36, func(b *api.CoatBook) { b.Hands |= 1 << 36 })
	all["36 hours, Start 36"] = plain(36, start(36))
	all["an hour, Hands 2"] = plain(1, func(b *api.CoatBook) { b.Hands = 2 })
	return all
}

// P3.1, P1, R2: a book that is not valid is the first error of all functions, even with wrong questions.
func TestWrongBooks(t *testing.T) {
	for name, b := range wrongBooks() {
		for _, n := range []int{0, 1, -1, 9, 37, math.MinInt, math.MaxInt} {
			wantAskErrors(t, name, b, n, n, api.ErrCoat)
			wantTimeErrors(t, name, b, n, n, api.ErrCoat)
		}
		a := ask(b, 0, 0)
		if a.check != api.ErrCoat {
			t.Errorf("%s: Check: %d", name, a.check)
		}
		if a.many != just(0) || a.h != api.ErrCoat {
			t.Errorf("%s: Many: %v, %d", name, a.many, a.h)
		}
		if len(a.laying) != 0 || a.i != api.ErrCoat {
			t.Errorf("%s: Laying: %v, %d", name, a.laying, a.i)
		}
		if len(a.worst) != 0 || a.j != api.ErrCoat {
			t.Errorf("%s: Worst: %v, %d", name, a.worst, a.j)
		}
	}
}

// limits are books with the least and the greatest of all numbers.
func limits() []api.CoatBook {
	return []api.CoatBook{
		plain(1, hands(), coats(kind(1, 0, 0, 0)), func(b *api.CoatBook) { b.Weather[0] = 1 }),
		plain(1, func(b *api.CoatBook) { b.Weather[0] = 7 }),
		plain(36, start(35), coats(slices.Repeat([]api.CoatKind{kind(40, 9, 9, 9)}, 5)...)),
		plain(36, weather(slices.Repeat([]int{any3}, 36)...), coats(slices.Repeat([]api.CoatKind{kind(40, 0, 4, 9)}, 5)...)),
		plain(36, hands(35), coats(kind(40, 9, 0, 9))),
	}
}

// P3.1, R7: both ends of each limit are valid.
func TestRightBooks(t *testing.T) {
	for i, b := range append(limits(), example(), example(single), example(shift), example(hands())) {
		if e := coat.Check(b); e != api.OK {
			t.Errorf("the right book %d: %d", i, e)
		}
		for number := range b.Coats {
			for time := range len(b.Weather) + 1 {
				a := ask(b, number, time)
				if a.g != api.OK || a.h != api.OK || a.i != api.OK || a.j != api.OK || len(a.worst) != len(b.Weather) {
					t.Errorf("the right book %d, %d at %d: %v", i, number, time, a)
				}
				if a.e != api.OK && a.e != api.ErrNone || a.f != api.OK && a.f != api.ErrNone || a.k != api.OK && a.k != api.ErrNone {
					t.Errorf("the right book %d, %d at %d: %v", i, number, time, a)
				}
			}
		}
	}
}

// P3.1, P3.2, P3.6, R1: a wrong question comes before that there is none.
func TestOrderOfErrors(t *testing.T) {
	for name, b := range map[string]api.CoatBook{"fine": example(), "no hands": example(hands()), "shift": example(shift)} {
		for _, number := range []int{-1, 2, 5, math.MinInt, math.MaxInt} {
			for _, time := range []int{0, 8} {
				wantAskErrors(t, name, b, number, time, api.ErrCoatAsk)
			}
			for _, time := range []int{-1, 9} {
				wantTimeErrors(t, name, b, number, time, api.ErrCoatAsk)
			}
		}
		for _, time := range []int{-1, 9, 37, math.MinInt, math.MaxInt} {
			for _, number := range []int{0, 1} {
				wantTimeErrors(t, name, b, number, time, api.ErrCoatAsk)
			}
		}
	}
	none := example(hands())
	for number := range 2 {
		if s, e := coat.Laid(none, number); s != just(0) || e != api.ErrNone {
			t.Errorf("no hands: Laid %d: %v, %d", number, s, e)
		}
		if s, e := coat.Dry(none, number); s != just(0) || e != api.ErrNone {
			t.Errorf("no hands: Dry %d: %v, %d", number, s, e)
		}
	}
	for time := range 9 {
		if n, e := coat.Late(none, time); n != 0 || e != api.ErrNone {
			t.Errorf("no hands: Late for %d: %d, %d", time, n, e)
		}
		if n, e := coat.Can(none, 0, time); n != 0 || e != api.OK {
			t.Errorf("no hands: Can at %d: %d, %d", time, n, e)
		}
	}
}

// P3.1: Laid and Dry.
func TestSpans(t *testing.T) {
	three := coats(kind(1, 9, 9, 9), kind(9, 9, 9, 9), kind(9, 3, 9, 9))
	for i, x := range []struct {
		b         api.CoatBook
		coat      int
		laid, dry api.Span
		e, f      api.Errno
	}{
		{example(), 0, just(0), to(2, 5), api.OK, api.OK},
		{example(), 1, to(2, 5), just(0), api.OK, api.ErrNone},
		{example(shift), 0, just(0), to(2, 5), api.OK, api.OK},
		{example(shift), 1, just(0), just(0), api.ErrNone, api.ErrNone},
		{example(single), 0, just(0), to(2, 5), api.OK, api.OK},
		// A coat that six hours can make dry, each of which is dry or damp.
		{plain(8, weather(slices.Repeat([]int{mixed}, 8)...), coats(kind(6, 3, 2, 1))), 0, just(0), to(2, 6), api.OK, api.OK},
		// An hour in which it is laid counts, and just enough is enough.
		{plain(1), 0, just(0), just(1), api.OK, api.OK},
		{plain(2, coats(kind(18, 0, 9, 0))), 0, just(0), just(2), api.OK, api.OK},
		{plain(2, coats(kind(19, 9, 9, 9))), 0, just(0), just(0), api.OK, api.ErrNone},
		{plain(5, coats(kind(40, 0, 9, 0))), 0, just(0), just(5), api.OK, api.OK},
		// What a coat gains too much is lost for the next one.
		{plain(4, coats(kind(1, 9, 9, 9), kind(10, 9, 9, 9))), 1, just(1), just(3), api.OK, api.OK},
		// Hours without a hand: a coat dries in them, and none is laid.
		{plain(6, hands(1, 4), coats(kind(2, 1, 1, 1), kind(2, 1, 1, 1))), 0, just(1), just(3), api.OK, api.OK},
		{plain(6, hands(1, 4), coats(kind(2, 1, 1, 1), kind(2, 1, 1, 1))), 1, just(4), just(6), api.OK, api.OK},
		{plain(6, hands(1, 3), coats(kind(2, 1, 1, 1), kind(2, 1, 1, 1))), 1, just(3), just(5), api.OK, api.OK},
		{plain(6, hands(1, 2), coats(kind(2, 1, 1, 1), kind(2, 1, 1, 1))), 1, just(0), just(0), api.ErrNone, api.ErrNone},
		// The hour Start counts, hands before it do not.
		{plain(6, start(3)), 0, just(3), just(4), api.OK, api.OK},
		{plain(6, start(5)), 0, just(5), just(6), api.OK, api.OK},
		{plain(6, start(5), hands(0, 4)), 0, just(0), just(0), api.ErrNone, api.ErrNone},
		{plain(6, start(2), hands(1, 2, 4)), 0, just(2), just(3), api.OK, api.OK},
		{plain(6, start(3), hands(1, 2, 4)), 0, just(4), just(5), api.OK, api.OK},
		// In some truth the next one is not laid, or not dry.
		{plain(2, weather(mixed, isFair), coats(kind(1, 1, 1, 0), kind(1, 1, 1, 1))), 0, just(0), to(1, 2), api.OK, api.OK},
		{plain(2, weather(mixed, isFair), coats(kind(1, 1, 1, 0), kind(1, 1, 1, 1))), 1, just(0), just(0), api.ErrNone, api.ErrNone},
		{plain(3, weather(mixed, isFair, isFair), coats(kind(1, 1, 1, 0), kind(1, 1, 1, 1))), 1, to(1, 2), to(2, 3), api.OK, api.OK},
		// A Gain of 0 in a weather that must come, that can come, and that cannot.
		{plain(2, weather(isDamp, isFair), coats(kind(1, 1, 1, 0))), 0, just(0), just(2), api.OK, api.OK},
		{plain(2, weather(mixed, mixed), coats(kind(1, 1, 1, 0))), 0, just(0), just(0), api.OK, api.ErrNone},
		{plain(2, coats(kind(1, 0, 1, 0))), 0, just(0), just(1), api.OK, api.OK},
		{plain(36, coats(kind(1, 9, 0, 9))), 0, just(0), just(0), api.OK, api.ErrNone},
		// A varnish that dries in the damp: what is best for one coat is worst for the next one.
		{example(weather(isDry, isDry, any3, isDamp, isDamp)), 1, just(2), to(3, 4), api.OK, api.OK},
		{example(weather(isDry, isDry, isDry, isDry)), 1, just(2), just(0), api.OK, api.ErrNone},
		{plain(3, weather(any3, any3, any3), three), 1, just(1), just(2), api.OK, api.OK},
		{plain(3, weather(any3, any3, any3), three), 2, just(2), just(0), api.OK, api.ErrNone},
		{plain(3, weather(mixed, mixed, mixed), coats(kind(2, 2, 0, 1), kind(2, 1, 0, 2))), 1, to(1, 2), just(0), api.OK, api.ErrNone},
		{plain(4, weather(mixed, mixed, mixed, mixed), coats(kind(2, 2, 0, 1), kind(2, 1, 0, 2))), 1, to(1, 2), to(2, 4), api.OK, api.OK},
		// All 36 hours, and five coats.
		{plain(36, start(35)), 0, just(35), just(36), api.OK, api.OK},
		{plain(36, hands(35)), 0, just(35), just(36), api.OK, api.OK},
		{plain(36, coats(slices.Repeat([]api.CoatKind{kind(7, 1, 1, 1)}, 5)...)), 4, just(28), just(35), api.OK, api.OK},
	} {
		if s, e := coat.Laid(x.b, x.coat); s != x.laid || e != x.e {
			t.Errorf("Laid %d: %v, %d", i, s, e)
		}
		if s, e := coat.Dry(x.b, x.coat); s != x.dry || e != x.f {
			t.Errorf("Dry %d: %v, %d", i, s, e)
		}
	}
}

// P3.2: Can, at each time from 0 to the end.
func TestCan(t *testing.T) {
	for i, x := range []struct {
		b    api.CoatBook
		coat int
		want []int
	}{
		{example(), 0, []int{0, 0, 1, 1, 1, 2, 2, 2, 2}},
		{example(), 1, []int{0, 0, 0, 1, 1, 1, 1, 1, 1}},
		{example(shift), 1, []int{0, 0, 0, 0, 0, 0, 0, 0, 1}},
		{example(hands(0, 6)), 1, []int{0, 0, 0, 0, 0, 0, 0, 0, 0}},
		{example(hands()), 0, []int{0, 0, 0, 0, 0, 0, 0, 0, 0}},
		{example(start(6)), 1, []int{0, 0, 0, 0, 0, 0, 0, 0, 0}},
		{plain(1), 0, []int{0, 2}},
		{plain(3, start(1)), 0, []int{0, 0, 2, 2}},
		{plain(2, weather(mixed, mixed), coats(kind(1, 1, 1, 0))), 0, []int{0, 1, 1}},
		{plain(2, weather(mixed, isDamp), coats(kind(1, 1, 1, 0))), 0, []int{0, 1, 1}},
		{plain(2, weather(mixed, isDry), coats(kind(1, 1, 1, 0))), 0, []int{0, 1, 2}},
	} {
		for time, want := range x.want {
			if n, e := coat.Can(x.b, x.coat, time); n != want || e != api.OK {
				t.Errorf("Can %d at %d: %d, %d", i, time, n, e)
			}
		}
		if n, e := coat.Can(x.b, x.coat, len(x.want)); n != 0 || e != api.ErrCoatAsk {
			t.Errorf("Can %d behind the end: %d, %d", i, n, e)
		}
	}
}

// P3.3 to P3.5: Many, Laying and Worst.
func TestHours(t *testing.T) {
	for i, x := range []struct {
		b             api.CoatBook
		many          api.Span
		laying, worst []int
	}{
		{example(), to(1, 2), []int{0, 2, 3, 4, 5}, []int{2, 2, 2, 2, 1, 1, 1, 1}},
		{example(single), just(1), []int{0}, []int{2, 2, 2, 2, 1, 1, 1, 1}},
		{example(shift), to(1, 2), []int{0, 4}, []int{2, 2, 2, 2, 1, 1, 1, 1}},
		// No hands: the first weather of each hour.
		{example(hands()), just(0), nil, []int{0, 0, 0, 0, 1, 1, 1, 1}},
		{plain(4, weather(any3, isFair|isDamp, isDamp, mixed), hands()), just(0), nil, []int{0, 1, 2, 0}},
		// Before Start nothing dries, and behind the last coat neither; nor does a coat that waits.
		{plain(5, weather(any3, any3, any3, any3, any3), start(2), coats(kind(2, 3, 2, 1))), just(1), []int{2}, []int{0, 0, 2, 2, 0}},
		{plain(5, weather(any3, any3, any3, any3, any3), hands(0, 3), coats(kind(1, 3, 2, 1), kind(1, 1, 0, 1))), to(1, 2), []int{0, 3}, []int{2, 0, 0, 1, 1}},
		// Of several weathers in which the least is gained the first one, of those that can be.
		{plain(4, weather(any3, any3, isFair|isDamp, mixed), coats(kind(40, 2, 1, 1))), just(0), []int{0}, []int{1, 1, 1, 2}},
		{plain(3, weather(any3, mixed, isFair|isDamp), coats(kind(40, 5, 5, 5))), just(0), []int{0}, []int{0, 0, 1}},
		{plain(3, weather(any3, mixed, isFair|isDamp), coats(kind(40, 0, 5, 0))), just(0), []int{0}, []int{0, 0, 2}},
		{plain(3, weather(any3, any3, any3), coats(kind(40, 0, 0, 0))), just(0), []int{0}, []int{0, 0, 0}},
		// A weather that is the worst of all does not count if it cannot be.
		{plain(2, weather(isDry, isFair|isDry), coats(kind(9, 4, 5, 0))), to(0, 1), []int{0}, []int{0, 0}},
		// What is worst hangs on the coat that dries.
		{plain(4, weather(mixed, mixed, mixed, mixed), coats(kind(2, 2, 0, 1), kind(2, 1, 0, 2))), just(2), []int{0, 1, 2}, []int{2, 2, 0, 0}},
		// Hours in which a coat cannot be laid, between two in which it can: the first coat takes an hour, or three.
		{plain(4, weather(mixed, isDamp, isFair, isFair), coats(kind(1, 1, 1, 0), kind(9, 1, 1, 1))), just(1), []int{0, 1, 3}, []int{2, 2, 1, 1}},
		{plain(6, weather(any3, any3, any3, any3, any3, any3), hands(0, 1, 3), coats(kind(2, 2, 1, 1), kind(9, 1, 1, 1))), just(1), []int{0, 1, 3}, []int{1, 1, 0, 0, 0, 0}},
		// An hour that can be one of laying for several coats; some coats need not be laid.
		{plain(3, weather(any3, any3, any3), coats(slices.Repeat([]api.CoatKind{kind(1, 1, 0, 1)}, 4)...)), to(0, 3), []int{0, 1, 2}, []int{1, 1, 1}},
		{plain(2, coats(kind(2, 1, 1, 1), kind(1, 1, 1, 1))), just(1), []int{0}, []int{1, 1}},
		{plain(7, coats(slices.Repeat([]api.CoatKind{kind(1, 0, 1, 0)}, 5)...)), just(5), []int{0, 1, 2, 3, 4}, []int{1, 1, 1, 1, 1, 1, 1}},
		{plain(36, hands(35)), just(1), []int{35}, slices.Repeat([]int{1}, 36)},
	} {
		if s, e := coat.Many(x.b); s != x.many || e != api.OK {
			t.Errorf("Many %d: %v, %d", i, s, e)
		}
		if l, e := coat.Laying(x.b); !slices.Equal(l, x.laying) || e != api.OK {
			t.Errorf("Laying %d: %v, %d", i, l, e)
		}
		if l, e := coat.Worst(x.b); !slices.Equal(l, x.worst) || e != api.OK {
			t.Errorf("Worst %d: %v, %d", i, l, e)
		}
	}
}

// P3.6: Late.
func TestLate(t *testing.T) {
	for i, x := range []struct {
		b          api.CoatBook
		time, want int
		e          api.Errno
	}{
		{example(), 8, 0, api.ErrNone},
		{example(single), 8, 5, api.OK}, {example(single), 7, 4, api.OK}, {example(single), 6, 2, api.OK},
		{example(single), 5, 0, api.OK}, {example(single), 4, 0, api.ErrNone}, {example(single), 0, 0, api.ErrNone},
		// The Start of the book counts for nothing.
		{example(single, start(7)), 8, 5, api.OK}, {example(single, start(7)), 5, 0, api.OK},
		// Without a hand in it an hour is as good as the next one with a hand, so that the latest one has a hand.
		{example(single, shift), 8, 4, api.OK}, {example(single, shift), 7, 4, api.OK}, {example(single, shift), 6, 0, api.OK},
		{example(single, hands(3, 5)), 8, 5, api.OK}, {example(single, hands(3, 5)), 7, 3, api.OK}, {example(single, hands(3, 5)), 6, 0, api.ErrNone},
		{example(single, hands(6)), 8, 0, api.ErrNone}, {example(single, hands()), 8, 0, api.ErrNone},
		// In each truth: that it could be dry earlier does not help.
		{plain(3, weather(mixed, mixed, mixed), coats(kind(2, 2, 0, 1))), 3, 1, api.OK}, {plain(3, weather(mixed, mixed, mixed), coats(kind(2, 2, 0, 1))), 1, 0, api.ErrNone},
		{plain(3, weather(mixed, mixed, mixed), coats(kind(1, 1, 1, 0))), 3, 0, api.ErrNone},
		// All coats, not some of them.
		{plain(9, coats(kind(2, 1, 1, 1), kind(3, 1, 1, 1))), 9, 4, api.OK}, {plain(9, coats(kind(2, 1, 1, 1), kind(3, 1, 1, 1))), 5, 0, api.OK},
		{plain(9, coats(kind(2, 1, 1, 1), kind(3, 1, 1, 1))), 4, 0, api.ErrNone}, {plain(9, hands(0, 1, 6), coats(kind(2, 1, 1, 1), kind(3, 1, 1, 1))), 9, 1, api.OK},
		// Both ends of all hours and times.
		{plain(1), 1, 0, api.OK}, {plain(1), 0, 0, api.ErrNone}, {plain(36), 36, 35, api.OK}, {plain(36), 1, 0, api.OK},
	} {
		if n, e := coat.Late(x.b, x.time); n != x.want || e != x.e {
			t.Errorf("Late %d: %d, %d", i, n, e)
		}
	}
}

// spare returns a book with room behind its lists, into which nothing may be written.
func spare(b api.CoatBook) api.CoatBook {
	b.Coats = append(slices.Clone(b.Coats), kind(7, 7, 7, 7))[:len(b.Coats)]
	b.Weather = append(slices.Clone(b.Weather), any3)[:len(b.Weather)]
	return b
}

// P3.7, P2, R4: arguments are not changed, results are new memory, and the same arguments have the same results.
func TestMemory(t *testing.T) {
	for i, b := range []api.CoatBook{example(), example(single), example(shift, start(1)), limits()[3]} {
		b = spare(b)
		before := clone(b)
		first := ask(b, 0, 5)
		kept := ask(clone(b), 0, 5)
		for _, l := range [][]int{first.laying, first.worst} {
			for n := range l {
				l[n] = 99
			}
			_ = append(l, 99)
		}
		if second := ask(b, 0, 5); !reflect.DeepEqual(second, kept) {
			t.Errorf("the book %d: %v, then %v", i, kept, second)
		}
		coatBehind, weatherBehind := b.Coats[:len(b.Coats)+1], b.Weather[:len(b.Weather)+1]
		if !reflect.DeepEqual(b, before) || coatBehind[len(b.Coats)] != kind(7, 7, 7, 7) || weatherBehind[len(b.Weather)] != any3 {
			t.Errorf("%v was changed to %v", before, b)
		}
	}
}

// P3.7: what is done to an argument later does not change a result.
func TestNothingIsRetained(t *testing.T) {
	b := example()
	first := ask(b, 0, 5)
	kept := ask(example(), 0, 5)
	clear(b.Coats)
	clear(b.Weather)
	if !reflect.DeepEqual(first, kept) {
		t.Errorf("%v became %v", kept, first)
	}
	if e := coat.Check(b); e != api.ErrCoat {
		t.Errorf("Check of the cleared book: %d", e)
	}
	if second := ask(example(), 0, 5); !reflect.DeepEqual(second, kept) {
		t.Errorf("%v, then %v", kept, second)
	}
}
