package harness_test

import (
	"math"
	"reflect"
	"slices"
	"strconv"
	"testing"

	"skewbald/api"
	"skewbald/harness"
)

func to(low, high int) api.Span { return api.Span{Low: low, High: high} }

func just(n int) api.Span { return to(n, n) }

type change func(b *api.HarnessBook)

// changed returns a changed copy of a book.
func changed(b api.HarnessBook, changes ...change) api.HarnessBook {
	b = clone(b)
	for _, c := range changes {
		c(&b)
	}
	return b
}

// example is the book of the chapter's examples, changed.
func example(changes ...change) api.HarnessBook {
	return changed(api.HarnessBook{
		Hair: api.HairBook{
			Hanks:  []api.HairHank{{Weight: to(10, 11), Shade: to(4, 5)}, {Weight: to(8, 9), Shade: just(6)}, {Weight: to(20, 22), Shade: just(3)}},
			Horses: []api.HairHorse{{Mane: 6, Tail: 4, Shade: 6}, {Mane: 5, Tail: 3, Shade: 7}},
			Dark:   2,
			Near:   1,
			Match:  1,
		},
		Needs: [][]int{{1, 4}, {1, 2}},
		Stock: []api.Span{to(2, 3), to(4, 5)},
		Pack:  7,
		Bad:   1,
	}, changes...)
}

func stock(kind int, s api.Span) change { return func(b *api.HarnessBook) { b.Stock[kind] = s } }

func stocks(l ...api.Span) change { return func(b *api.HarnessBook) { b.Stock = l } }

func needs(l ...[]int) change { return func(b *api.HarnessBook) { b.Needs = l } }

func pack(pack, bad int) change { return func(b *api.HarnessBook) { b.Pack, b.Bad = pack, bad } }

func hanks(l ...api.HairHank) change { return func(b *api.HarnessBook) { b.Hair.Hanks = l } }

func horses(l ...api.HairHorse) change { return func(b *api.HarnessBook) { b.Hair.Horses = l } }

// scarce and poor are the changes of the chapter's examples.
var scarce = stock(1, to(3, 4))

func poor(b *api.HarnessBook) {
	b.Hair.Hanks[1].Weight = to(7, 8)
	b.Hair.Hanks = b.Hair.Hanks[:2]
}

// allBald is that nobody has hair.
var allBald = hanks()

// isBald is that there is no hair for a horse of a plain book.
func isBald(horse int) change { return func(b *api.HarnessBook) { b.Hair.Horses[horse].Shade = 15 } }

// all is a list of numbers: of what a horse needs of all kinds, or of horses.
func all(l ...int) []int { return l }

// spans is a list of spans, one for each kind.
func spans(l ...api.Span) []api.Span { return l }

// plain is a book in which all horses have hair, with some stock of all kinds; of each horse it is told what it needs.
func plain(at []api.Span, wanted ...[]int) api.HarnessBook {
	b := api.HarnessBook{Hair: api.HairBook{Hanks: []api.HairHank{{Weight: just(60), Shade: just(5)}}}, Needs: wanted, Stock: at, Pack: 7, Bad: 1}
	for range wanted {
		b.Hair.Horses = append(b.Hair.Horses, api.HairHorse{Mane: 1, Tail: 1, Shade: 5})
	}
	return b
}

// one is a plain book of one kind; of each horse it is told how many pieces it needs.
func one(at api.Span, wanted ...int) api.HarnessBook {
	var l [][]int
	for _, n := range wanted {
		l = append(l, all(n))
	}
	return plain(spans(at), l...)
}

// two is a plain book of two kinds.
func two(at, other api.Span, wanted ...[]int) api.HarnessBook {
	return plain(spans(at, other), wanted...)
}

// answers are the results of all functions for a book and a kind, with the error of each.
type answers struct {
	sure, perhaps, order, queue []int
	many, lacking, over         api.Span
	count                       int
	errors                      [9]api.Errno
}

func ask(b api.HarnessBook, kind int) answers {
	var a answers
	a.errors[0] = harness.Check(b)
	a.sure, a.errors[1] = harness.Sure(b)
	a.perhaps, a.errors[2] = harness.Perhaps(b)
	a.many, a.errors[3] = harness.Many(b)
	a.lacking, a.errors[4] = harness.Lacking(b, kind)
	a.order, a.errors[5] = harness.Order(b)
	a.over, a.errors[6] = harness.Over(b, kind)
	a.count, a.errors[7] = harness.Count(b)
	a.queue, a.errors[8] = harness.Queue(b)
	return a
}

// wrongSpans are spans that are wrong for a kind.
func wrongSpans() map[string]api.Span {
	return map[string]api.Span{
		"from -1": to(-1, 2), "just -1": just(-1), "41": just(41), "to 41": to(40, 41), "37 to 41": to(37, 41), "5 apart": to(2, 7), "5 apart from 0": to(0, 5), "5 apart to 40": to(35, 40), "many apart": to(0, 40),
		"turned": to(4, 3), "turned far": to(40, 0), "turned to -1": to(0, -1), "all": to(math.MinInt, math.MaxInt), "turned all": to(math.MaxInt, math.MinInt), "far below": just(math.MinInt), "far above": just(math.MaxInt), "from far below": to(math.MinInt, 3), "to far above": to(3, math.MaxInt), "from far above": to(math.MaxInt, 3), "to far below": to(3, math.MinInt),
	}
}

// wrongLists are changes after which there are too few, or too many, kinds or needs.
func wrongLists() map[string]change {
	four, many := slices.Repeat([]int{1}, 4), slices.Repeat([]int{1}, 1000)
	return map[string]change{
		"no kinds":               stocks(),
		"no kinds, nor needs":    func(b *api.HarnessBook) { b.Stock, b.Needs = nil, make([][]int, 2) },
		"a kind less":            stocks(to(2, 3)),
		"a kind more":            stocks(to(2, 3), to(4, 5), just(1)),
		"4 kinds":                func(b *api.HarnessBook) { b.Stock, b.Needs = make([]api.Span, 4), [][]int{four, four} },
		"many kinds":             func(b *api.HarnessBook) { b.Stock, b.Needs = make([]api.Span, 1000), [][]int{many, many} },
		"no needs":               needs(),
		"a list less":            needs(all(1, 4)),
		"a list more":            needs(all(1, 4), all(1, 2), all(1, 1)),
		"many lists":             needs(slices.Repeat([][]int{{1, 1}}, 1000)...),
		"a horse less":           func(b *api.HarnessBook) { b.Hair.Horses = b.Hair.Horses[:1] },
		"a horse more":           func(b *api.HarnessBook) { b.Hair.Horses = append(b.Hair.Horses, b.Hair.Horses[0]) },
		"no horses, but needs":   horses(),
		"no needs of the one":    needs(nil, all(1, 2)),
		"no needs of the other":  needs(all(1, 4), all()),
		"one number of the one":  needs(all(1), all(1, 2)),
		"one number less":        needs(all(1, 4), all(1)),
		"a number more":          needs(all(1, 4), all(1, 2, 1)),
		"a number of 0 more":     needs(all(1, 4, 0), all(1, 2)),
		"many numbers":           needs(all(1, 4), many),
		"as many in all, turned": needs(all(1), all(4, 1, 2)),
	}
}

// wrongHair are changes after which the Hair is not valid.
func wrongHair() map[string]change {
	four := func(b *api.HarnessBook) {
		b.Hair.Horses, b.Needs = slices.Repeat(b.Hair.Horses, 2), slices.Repeat(b.Needs, 2)
	}
	return map[string]change{
		"Dark 5":        func(b *api.HarnessBook) { b.Hair.Dark = 5 },
		"Near -1":       func(b *api.HarnessBook) { b.Hair.Near = -1 },
		"Match 4":       func(b *api.HarnessBook) { b.Hair.Match = 4 },
		"5 hanks":       hanks(slices.Repeat([]api.HairHank{{Weight: just(9), Shade: just(5)}}, 5)...),
		"4 horses":      four,
		"a wrong hank":  func(b *api.HarnessBook) { b.Hair.Hanks[2].Weight.High = 25 },
		"a wrong horse": func(b *api.HarnessBook) { b.Hair.Horses[1].Tail = 0 },
	}
}

// wrongBooks are books each of which is wrong in one place.
func wrongBooks() map[string]api.HarnessBook {
	books := map[string]api.HarnessBook{
		"nothing":   {},
		"only Pack": {Pack: 7},
		"no Pack":   {Stock: []api.Span{just(0)}},
		"no Stock":  {Pack: 1, Needs: [][]int{}},
	}
	for name, c := range wrongLists() {
		books[name] = example(c)
	}
	for name, c := range wrongHair() {
		books["Hair: "+name] = example(c)
	}
	for name, s := range wrongSpans() {
		for kind := range 2 {
			books["the Stock of "+strconv.Itoa(kind)+" "+name] = example(stock(kind, s))
		}
	}
	for _, n := range []int{-1, 10, math.MinInt, math.MaxInt} {
		for horse := range 2 {
			for kind := range 2 {
				name := "the horse " + strconv.Itoa(horse) + " needs " + strconv.Itoa(n) + " of " + strconv.Itoa(kind)
				books[name] = example(func(b *api.HarnessBook) { b.Needs[horse][kind] = n })
			}
		}
	}
	for _, p := range [][2]int{{0, 0}, {0, -1}, {-1, 0}, {-1, -2}, {13, 0}, {13, 12}, {math.MinInt, 0}, {math.MinInt, math.MinInt}, {math.MinInt, math.MaxInt}, {math.MaxInt, 0}, {math.MaxInt, 11}, {7, -1}, {7, 7}, {7, 8}, {1, 1}, {12, 12}, {12, 13}, {7, math.MinInt}, {7, math.MaxInt}} {
		books["a Pack of "+strconv.Itoa(p[0])+" with "+strconv.Itoa(p[1])+" bad"] = example(pack(p[0], p[1]))
	}
	return books
}

// wantErrors checks that all functions returned one error, and zero values.
func wantErrors(t *testing.T, name string, a answers, want api.Errno) {
	t.Helper()
	for n, e := range a.errors {
		if e != want {
			t.Errorf("%s: the error of the function %d: %d", name, n, e)
		}
	}
	if len(a.sure)+len(a.perhaps)+len(a.order)+len(a.queue) > 0 {
		t.Errorf("%s: %v", name, a)
	}
	if a.many != (api.Span{}) || a.lacking != (api.Span{}) || a.over != (api.Span{}) || a.count != 0 {
		t.Errorf("%s: %v", name, a)
	}
}

// P10.1, P1, R1, R2, R8: a book that is not valid is the first error of all functions, even with wrong questions; of several errors in it too.
func TestWrongBooks(t *testing.T) {
	for name, b := range wrongBooks() {
		for _, kind := range []int{0, 1, -1, 2, 3, math.MinInt, math.MaxInt} {
			wantErrors(t, name, ask(b, kind), api.ErrHarness)
		}
	}
	several := api.HarnessBook{Hair: api.HairBook{Dark: -1}, Needs: [][]int{{-1}}, Stock: make([]api.Span, 9), Pack: -1, Bad: -1}
	wantErrors(t, "all is wrong", ask(several, 9), api.ErrHarness)
	for kind := range 3 {
		for name, s := range wrongSpans() {
			b := changed(plain(spans(just(1), just(1), just(1)), all(1, 1, 1)), stock(kind, s))
			wantErrors(t, "of three kinds the Stock "+name, ask(b, kind), api.ErrHarness)
		}
	}
}

// limits are books with the least and the greatest of all numbers.
func limits() []api.HarnessBook {
	most := slices.Repeat([]int{api.HarnessNeed}, 3)
	return []api.HarnessBook{
		{Stock: []api.Span{just(0)}, Pack: 1},
		{Stock: []api.Span{just(40), to(36, 40), to(0, 4)}, Pack: 12, Bad: 11},
		one(just(0), 0),
		one(just(40), 9),
		one(to(0, 4), 9, 0, 9),
		one(to(36, 40), 9, 9, 9),
		plain(spans(just(0), just(0), just(0)), most, most, most),
		plain(spans(just(40), just(40), just(40)), most, most, most),
		plain(spans(to(0, 4), to(36, 40), to(14, 18)), most, most, most),
		plain(spans(to(7, 11), to(8, 12), to(16, 20)), most, all(0, 0, 0), most),
		changed(plain(spans(just(0), just(40), to(0, 1)), most, most, most), pack(1, 0)),
		changed(plain(spans(just(0), to(26, 27), to(22, 26)), most, most, most), pack(12, 0)),
		changed(plain(spans(to(0, 4), just(3), to(1, 3)), most, most, most), pack(12, 11)),
		changed(plain(spans(just(9), just(9), just(9)), most, most, most), allBald),
	}
}

// P10.1, R7: both ends of each limit are valid, and all that lies between them.
func TestRightBooks(t *testing.T) {
	right := func(b api.HarnessBook) {
		t.Helper()
		if e := harness.Check(b); e != api.OK {
			t.Errorf("Check %v: %d", b, e)
		}
	}
	for _, b := range append(limits(), example(), example(scarce), example(poor), example(allBald)) {
		right(b)
	}
	for low := range api.HarnessStock + 1 {
		for high := low; high <= min(low+api.HarnessWide, api.HarnessStock); high++ {
			right(example(stock(low%2, to(low, high))))
		}
	}
	for n := range api.HarnessNeed + 1 {
		for kind := range 2 {
			right(example(func(b *api.HarnessBook) { b.Needs[n%2][kind] = n }))
		}
	}
	for n := 1; n <= api.HarnessPack; n++ {
		for bad := range n {
			right(example(pack(n, bad)))
		}
	}
	for many := range api.HairHorses + 1 {
		for kinds := 1; kinds <= api.HarnessKinds; kinds++ {
			wanted := slices.Repeat([]int{many}, kinds)
			right(plain(slices.Repeat([]api.Span{to(kinds, 4)}, kinds), slices.Repeat([][]int{wanted}, many)...))
		}
	}
}

// P10.3, P10.5, R1, R2, R8: a kind that is none; all other functions answer.
func TestWrongQuestions(t *testing.T) {
	for i, b := range append(limits(), example(), example(scarce), example(poor), example(allBald)) {
		right := ask(b, 0)
		if right.errors[4] != api.OK || right.errors[6] != api.OK {
			t.Errorf("the book %d: %v", i, right.errors)
		}
		for _, kind := range []int{-1, len(b.Stock), len(b.Stock) + 1, 3, math.MinInt, math.MaxInt} {
			a := ask(b, kind)
			if a.errors[4] != api.ErrHarnessAsk || a.errors[6] != api.ErrHarnessAsk || a.lacking != (api.Span{}) || a.over != (api.Span{}) {
				t.Errorf("the book %d, the kind %d: %v", i, kind, a)
			}
			a.lacking, a.over, a.errors = right.lacking, right.over, right.errors
			if !reflect.DeepEqual(a, right) {
				t.Errorf("the book %d, the kind %d: %v, with a kind %v", i, kind, a, right)
			}
		}
	}
}

// dayCase is what is known of the day of a book: who surely is served, who perhaps, how many, which kind should be counted (none if nobody is unsure), and in which order horses should wait.
type dayCase struct {
	b             api.HarnessBook
	sure, perhaps []int
	many          api.Span
	count         int
	queue         []int
}

// wantDay checks one case.
func wantDay(t *testing.T, i int, x dayCase) {
	t.Helper()
	if l, e := harness.Sure(x.b); !slices.Equal(l, x.sure) || e != api.OK {
		t.Errorf("Sure %d: %v, %d", i, l, e)
	}
	if l, e := harness.Perhaps(x.b); !slices.Equal(l, x.perhaps) || e != api.OK {
		t.Errorf("Perhaps %d: %v, %d", i, l, e)
	}
	if s, e := harness.Many(x.b); s != x.many || e != api.OK {
		t.Errorf("Many %d: %v, %d", i, s, e)
	}
	wanted := api.OK
	if x.count == none {
		wanted = api.ErrNone
	}
	if n, e := harness.Count(x.b); n != max(x.count, 0) || e != wanted {
		t.Errorf("Count %d: %d, %d", i, n, e)
	}
	if l, e := harness.Queue(x.b); !slices.Equal(l, x.queue) || e != api.OK {
		t.Errorf("Queue %d: %v, %d", i, l, e)
	}
}

// P10.1, P10.2, P10.6, P10.7: the chapter's examples.
func TestTheDaysOfTheChapter(t *testing.T) {
	for i, x := range []dayCase{
		{example(), all(0), all(0), just(1), none, all(0, 1)},
		{example(scarce), nil, all(0, 1), just(1), 1, all(1, 0)},
		{example(poor), all(1), all(1), just(1), none, all(0, 1)},
	} {
		wantDay(t, i, x)
	}
}

// P10.1, P10.2, P10.6: Sure, Perhaps and Many, in a day of known numbers, and with nobody unsure.
func TestSureDays(t *testing.T) {
	for i, x := range []dayCase{
		// Nobody waits.
		{one(just(9)), nil, nil, just(0), none, nil},
		{one(to(0, 4)), nil, nil, just(0), none, nil},
		// Just enough, and one too few.
		{one(just(5), 5), all(0), all(0), just(1), none, all(0)},
		{one(just(4), 5), nil, nil, just(0), none, all(0)},
		{one(just(9), 9), all(0), all(0), just(1), none, all(0)},
		{one(just(8), 9), nil, nil, just(0), none, all(0)},
		{one(just(27), 9, 9, 9), all(0, 1, 2), all(0, 1, 2), just(3), none, all(0, 1, 2)},
		{one(just(26), 9, 9, 9), all(0, 1), all(0, 1), just(2), none, all(0, 1, 2)},
		// Nothing is needed, and nothing is at hand.
		{one(just(0), 0), all(0), all(0), just(1), none, all(0)},
		{one(just(0), 0, 1, 0), all(0, 2), all(0, 2), just(2), none, all(0, 1, 2)},
		{one(to(0, 4), 0, 0, 5), all(0, 1), all(0, 1), just(2), none, all(0, 1, 2)},
		// One is not served while a later one still is.
		{one(just(3), 4, 3), all(1), all(1), just(1), none, all(0, 1)},
		{one(just(5), 3, 3, 2), all(0, 2), all(0, 2), just(2), none, all(0, 1, 2)},
		{one(just(5), 6, 6, 5), all(2), all(2), just(1), none, all(0, 1, 2)},
		// One kind alone is short, so that nothing is taken of the other.
		{two(just(2), just(1), all(1, 2), all(2, 1)), all(1), all(1), just(1), none, all(0, 1)},
		{two(just(1), just(2), all(2, 1), all(1, 2)), all(1), all(1), just(1), none, all(0, 1)},
		{two(just(2), just(2), all(1, 2), all(1, 1), all(1, 0)), all(0, 2), all(0, 2), just(2), none, all(0, 1, 2)},
		{plain(spans(just(1), just(1), just(1)), all(1, 1, 2), all(1, 1, 1), all(0, 0, 1)), all(1), all(1), just(1), none, all(0, 1, 2)},
		// Both kinds count, each for itself.
		{two(just(9), just(1), all(3, 1), all(3, 1)), all(0), all(0), just(1), none, all(0, 1)},
		{two(just(3), just(4), all(4, 3)), nil, nil, just(0), none, all(0)},
		// However many there are at hand, all are served.
		{one(to(5, 9), 3, 2), all(0, 1), all(0, 1), just(2), none, all(0, 1)},
		{two(to(5, 9), to(0, 4), all(3, 0), all(2, 0)), all(0, 1), all(0, 1), just(2), none, all(0, 1)},
		{one(to(0, 4), 5, 9), nil, nil, just(0), none, all(0, 1)},
		// Those that have no hair.
		{example(allBald), nil, nil, just(0), none, all(0, 1)},
		{changed(one(just(9), 3, 3, 3), isBald(1)), all(0, 2), all(0, 2), just(2), none, all(0, 1, 2)},
		{changed(one(just(3), 3, 3, 3), isBald(0)), all(1), all(1), just(1), none, all(0, 1, 2)},
		{changed(one(just(3), 3, 3, 3), isBald(0), isBald(1)), all(2), all(2), just(1), none, all(0, 1, 2)},
		{changed(one(just(0), 0, 0, 0), isBald(0), isBald(2)), all(1), all(1), just(1), none, all(0, 1, 2)},
		{changed(one(to(2, 6), 3, 3), isBald(0), isBald(1)), nil, nil, just(0), none, all(0, 1)},
		{changed(one(just(0), 0, 0), isBald(0), isBald(1)), nil, nil, just(0), none, all(0, 1)},
	} {
		wantDay(t, i, x)
	}
}

// P10.1, P10.2, P10.6: somebody perhaps is served, but not surely.
func TestUnsureDays(t *testing.T) {
	for i, x := range []dayCase{
		{one(to(0, 1), 1), nil, all(0), to(0, 1), 0, all(0)},
		{one(to(5, 9), 9), nil, all(0), to(0, 1), 0, all(0)},
		{one(to(4, 8), 9), nil, nil, just(0), none, all(0)},
		{one(to(36, 40), 9, 9, 9), all(0, 1, 2), all(0, 1, 2), just(3), none, all(0, 1, 2)},
		{one(to(3, 4), 1, 3), all(0), all(0, 1), to(1, 2), 0, all(0, 1)},
		{one(to(23, 27), 9, 9, 9), all(0, 1), all(0, 1, 2), to(2, 3), 0, all(0, 1, 2)},
		{one(to(1, 5), 1, 2, 2), all(0), all(0, 1, 2), to(1, 3), 0, all(0, 1, 2)},
		// Only if fewer are at hand, because an earlier one is not served then.
		{one(to(3, 4), 4, 3), nil, all(0, 1), just(1), 0, all(1, 0)},
		{one(to(3, 4), 4, 3, 1), nil, all(0, 1), just(1), 0, all(1, 0, 2)},
		{one(to(2, 6), 4, 2, 2), nil, all(0, 1), to(1, 2), 0, all(1, 0, 2)},
		{one(to(3, 5), 5, 4, 3), nil, all(0, 1, 2), just(1), 0, all(2, 0, 1)},
		{one(to(3, 7), 5, 3, 2), nil, all(0, 1, 2), to(1, 2), 0, all(1, 0, 2)},
		// Both in the least truth and in the greatest, but not in all between them.
		{one(to(3, 5), 4, 3, 2), nil, all(0, 1), just(1), 0, all(1, 0, 2)},
		{one(to(2, 5), 3, 2, 0), all(2), all(0, 1, 2), to(2, 3), 0, all(1, 0, 2)},
		// Only if more of one kind, and fewer of another one, are at hand.
		{two(to(1, 2), to(1, 2), all(1, 2), all(1, 1)), nil, all(0, 1), just(1), 1, all(1, 0)},
		{two(to(1, 2), to(0, 1), all(1, 1), all(2, 0)), nil, all(0, 1), to(0, 1), 1, all(0, 1)},
		// A horse without hair takes nothing in any truth.
		{changed(one(to(3, 4), 4, 3), isBald(0)), all(1), all(1), just(1), none, all(0, 1)},
		{changed(one(to(3, 4), 3, 3, 1), isBald(1)), all(0), all(0, 2), to(1, 2), 0, all(0, 1, 2)},
		{changed(one(to(3, 4), 1, 4, 3), isBald(0)), nil, all(1, 2), just(1), 0, all(0, 2, 1)},
		{changed(one(to(0, 4), 4, 4, 4), isBald(1), isBald(0)), nil, all(2), to(0, 1), 0, all(0, 1, 2)},
		{example(stock(1, to(5, 6))), all(0), all(0, 1), to(1, 2), 1, all(0, 1)},
		{example(stock(1, to(6, 8))), all(0, 1), all(0, 1), just(2), none, all(0, 1)},
		{example(stock(0, to(0, 1)), stock(1, just(9))), nil, all(0), to(0, 1), 0, all(0, 1)},
		{example(stock(0, to(0, 2)), scarce), nil, all(0, 1), to(0, 1), 1, all(0, 1)},
		{example(poor, stock(1, to(0, 3))), nil, all(1), to(0, 1), 1, all(0, 1)},
	} {
		wantDay(t, i, x)
	}
}

// P10.6: Count.
func TestCount(t *testing.T) {
	third := func(at ...api.Span) api.HarnessBook { return plain(at, all(1, 0, 0), all(0, 1, 0), all(0, 0, 1)) }
	for i, x := range []struct {
		b    api.HarnessBook
		want int
	}{
		{example(), none}, {example(scarce), 1}, {example(poor), none}, {example(allBald), none},
		// Nobody is unsure, whatever is known of the kinds.
		{one(to(0, 4)), none}, {one(to(0, 4), 0), none}, {one(to(0, 4), 5), none}, {one(to(1, 5), 1), none},
		{changed(one(to(0, 4), 2), isBald(0)), none},
		// One kind changes nothing once it is counted.
		{two(to(0, 4), to(0, 1), all(0, 1)), 1}, {two(to(0, 1), to(0, 4), all(1, 0)), 0},
		{two(just(1), to(0, 1), all(1, 1)), 1}, {two(to(0, 1), just(1), all(1, 1)), 0},
		{third(just(1), just(1), to(0, 1)), 2}, {third(to(3, 4), to(0, 1), to(3, 4)), 1},
		// Several are as good.
		{two(to(0, 1), to(0, 1), all(1, 1)), 0}, {two(to(0, 1), to(0, 1), all(1, 0), all(0, 1)), 0}, {third(to(0, 1), to(0, 1), to(0, 1)), 0},
		{third(to(1, 2), to(0, 1), to(0, 1)), 1}, {third(to(0, 1), to(1, 2), to(0, 1)), 0},
		// One is better, by more horses that nobody is unsure of then.
		{two(to(0, 1), to(0, 2), all(1, 0), all(0, 1), all(0, 1)), 1}, {two(to(0, 2), to(0, 1), all(0, 1), all(1, 0), all(1, 0)), 0},
		// Once it is counted another one still is unknown, in some truths of it or in all.
		{two(to(0, 3), to(0, 1), all(1, 1), all(2, 0)), 0}, {two(to(1, 2), to(0, 2), all(1, 0), all(1, 2)), 0},
		{two(to(1, 2), to(0, 1), all(1, 1), all(1, 0)), 1},
		// It would be best to count both, but only one is.
		{two(to(0, 1), to(0, 1), all(1, 1), all(1, 1)), 0},
		// A horse without hair is not unsure.
		{changed(two(to(0, 1), to(0, 1), all(1, 0), all(0, 1)), isBald(0)), 1}, {changed(two(to(0, 1), to(0, 1), all(1, 0), all(0, 1)), isBald(1)), 0},
	} {
		want, wanted := x.want, api.OK
		if want == none {
			want, wanted = 0, api.ErrNone
		}
		if n, e := harness.Count(x.b); n != want || e != wanted {
			t.Errorf("Count %d: %d, %d", i, n, e)
		}
	}
}

// P10.7: Queue.
func TestQueue(t *testing.T) {
	for i, x := range []struct {
		b    api.HarnessBook
		want []int
	}{
		{example(), all(0, 1)}, {example(scarce), all(1, 0)}, {example(poor), all(0, 1)}, {example(horses(), needs()), nil}, {one(just(1), 1), all(0)},
		// Of several orders the first one, with all served, with some, and with none.
		{one(just(9), 1, 2, 3), all(0, 1, 2)}, {one(just(5), 5, 5, 5), all(0, 1, 2)}, {one(just(0), 5, 5, 5), all(0, 1, 2)},
		{one(just(6), 3, 3, 3), all(0, 1, 2)},
		// Better than by numbers: the one that needs less, or that needs other kinds, comes before another.
		{one(just(5), 5, 2, 3), all(1, 0, 2)}, {one(just(5), 2, 5, 3), all(0, 1, 2)}, {one(just(5), 3, 3, 2), all(0, 1, 2)},
		{one(just(4), 3, 2, 2), all(1, 0, 2)}, {one(just(6), 3, 4, 3), all(0, 1, 2)}, {one(just(6), 5, 3, 3), all(1, 0, 2)},
		{one(just(6), 1, 6, 5), all(0, 1, 2)}, {one(just(6), 1, 5, 6), all(0, 1, 2)}, {one(just(6), 2, 5, 4), all(0, 1, 2)},
		{one(just(5), 4, 2, 2), all(1, 0, 2)}, {one(just(3), 3, 2, 1), all(1, 0, 2)}, {one(just(3), 3, 1, 1), all(1, 0, 2)},
		{one(just(3), 2, 2, 1), all(0, 1, 2)},
		{two(just(1), just(1), all(1, 1), all(1, 0), all(0, 1)), all(1, 0, 2)},
		{two(just(1), just(1), all(1, 0), all(1, 1), all(0, 1)), all(0, 1, 2)},
		{two(just(2), just(1), all(1, 1), all(1, 1), all(1, 0)), all(0, 1, 2)},
		// As many as there are at least decide, and who is served then only; but more at hand can mean that an earlier one takes them.
		{one(to(3, 4), 4, 3), all(1, 0)}, {one(to(3, 4), 4, 3, 1), all(1, 0, 2)}, {one(to(3, 7), 4, 3), all(1, 0)},
		{one(to(3, 5), 5, 4, 3), all(2, 0, 1)}, {one(to(4, 6), 4, 2, 2), all(1, 2, 0)}, {one(to(4, 5), 1, 4, 3), all(0, 2, 1)},
		{one(to(2, 3), 2, 1, 1), all(1, 2, 0)}, {one(to(0, 4), 1, 2, 3), all(0, 1, 2)},
		// Horses without hair take no place of anybody.
		{changed(one(to(3, 4), 0, 4, 3), isBald(0)), all(0, 2, 1)}, {changed(one(to(3, 4), 4, 0, 3), isBald(1)), all(1, 2, 0)},
		{changed(one(to(3, 4), 4, 3, 0), isBald(2)), all(1, 0, 2)}, {changed(one(to(3, 4), 4, 3), isBald(0)), all(0, 1)},
		{changed(one(to(3, 4), 4, 3), allBald), all(0, 1)},
		// There is hair for two of three, which are the last two, whoever comes first.
		{changed(one(to(3, 4), 1, 4, 3), func(b *api.HarnessBook) { b.Hair.Hanks[0].Weight = just(4) }), all(0, 2, 1)},
	} {
		if l, e := harness.Queue(x.b); !slices.Equal(l, x.want) || e != api.OK {
			t.Errorf("Queue %d: %v, %d", i, l, e)
		}
	}
}

// packCase is what must be ordered for a book: for each kind how many packs, how many pieces lack, and how many are left over then.
type packCase struct {
	b             api.HarnessBook
	order         []int
	lacking, over []api.Span
}

// wantPacks checks one case.
func wantPacks(t *testing.T, i int, x packCase) {
	t.Helper()
	if l, e := harness.Order(x.b); !slices.Equal(l, x.order) || e != api.OK {
		t.Errorf("Order %d: %v, %d", i, l, e)
	}
	for kind := range x.b.Stock {
		if s, e := harness.Lacking(x.b, kind); s != x.lacking[kind] || e != api.OK {
			t.Errorf("Lacking %d of %d: %v, %d", i, kind, s, e)
		}
		if s, e := harness.Over(x.b, kind); s != x.over[kind] || e != api.OK {
			t.Errorf("Over %d of %d: %v, %d", i, kind, s, e)
		}
	}
}

// P10.3, P10.4, P10.5: Lacking, Order and Over: the examples, and who counts.
func TestWhatLacks(t *testing.T) {
	for i, x := range []packCase{
		{example(), all(0, 1), spans(just(0), to(1, 2)), spans(to(0, 1), to(4, 6))},
		{example(scarce), all(0, 1), spans(just(0), to(2, 3)), spans(to(0, 1), to(3, 5))},
		{example(poor), all(0, 0), spans(just(0), just(0)), spans(to(1, 2), to(2, 3))},
		{example(allBald), all(0, 0), spans(just(0), just(0)), spans(to(2, 3), to(4, 5))},
		{example(horses(), needs()), all(0, 0), spans(just(0), just(0)), spans(to(2, 3), to(4, 5))},
		{one(just(0), 5, 3), all(2), spans(just(8)), spans(to(4, 6))},
		// In no truth too few, in some, and in each.
		{one(to(5, 9), 5), all(0), spans(just(0)), spans(to(0, 4))},
		{one(to(4, 8), 5), all(1), spans(to(0, 1)), spans(to(5, 10))},
		{one(to(1, 5), 5), all(1), spans(to(0, 4)), spans(to(2, 7))},
		{one(to(0, 4), 5), all(1), spans(to(1, 5)), spans(to(1, 6))},
		{one(just(5), 5), all(0), spans(just(0)), spans(just(0))},
		{one(just(4), 5), all(1), spans(just(1)), spans(to(5, 6))},
		{one(just(40), 9), all(0), spans(just(0)), spans(just(31))},
		// All that have hair count, also those that are not served, and none that has no hair.
		{one(just(0), 9, 0, 1), all(2), spans(just(10)), spans(to(2, 4))},
		{changed(one(just(3), 3, 3, 3), isBald(1)), all(1), spans(just(3)), spans(to(3, 4))},
		{changed(one(just(3), 9, 3, 9), isBald(0), isBald(2)), all(0), spans(just(0)), spans(just(0))},
		{changed(one(just(0), 9), isBald(0)), all(0), spans(just(0)), spans(just(0))},
		// Each kind for itself.
		{two(just(3), just(8), all(4, 0), all(0, 9)), all(1, 1), spans(just(1), just(1)), spans(to(5, 6), to(5, 6))},
		{two(just(9), just(0), all(0, 9)), all(0, 2), spans(just(0), just(9)), spans(just(9), to(3, 5))},
		{plain(spans(to(0, 1), just(20), to(2, 6)), all(9, 9, 9), all(9, 9, 0)), all(3, 0, 2), spans(to(17, 18), just(0), to(3, 7)), spans(to(0, 4), just(2), to(5, 11))},
	} {
		wantPacks(t, i, x)
	}
}

// P10.4, P10.5: Order and Over: as many packs as are just enough, and what is left over then.
func TestPacks(t *testing.T) {
	for i, x := range []packCase{
		// Just enough, with all bad pieces, and not with a pack less.
		{one(just(0), 6), all(1), spans(just(6)), spans(to(0, 1))},
		{one(just(0), 7), all(2), spans(just(7)), spans(to(5, 7))},
		{one(just(1), 7), all(1), spans(just(6)), spans(to(0, 1))},
		{one(to(1, 2), 7), all(1), spans(to(5, 6)), spans(to(0, 2))},
		{one(to(0, 1), 7), all(2), spans(to(6, 7)), spans(to(5, 8))},
		{one(just(0), 9, 3), all(2), spans(just(12)), spans(to(0, 2))},
		{one(just(0), 9, 4), all(3), spans(just(13)), spans(to(5, 8))},
		{one(just(0), 9, 9), all(3), spans(just(18)), spans(to(0, 3))},
		// No bad pieces, and the most; packs of one piece, and of the most.
		{changed(one(just(0), 7), pack(7, 0)), all(1), spans(just(7)), spans(just(0))},
		{changed(one(just(0), 8), pack(7, 0)), all(2), spans(just(8)), spans(just(6))},
		{changed(one(just(0), 8), pack(7, 6)), all(8), spans(just(8)), spans(to(0, 48))},
		{changed(one(just(0), 9, 9, 9), pack(1, 0)), all(27), spans(just(27)), spans(just(0))},
		{changed(one(just(0), 9, 9, 9), pack(12, 11)), all(27), spans(just(27)), spans(to(0, 297))},
		{changed(one(just(0), 9, 9, 9), pack(12, 0)), all(3), spans(just(27)), spans(just(9))},
		{changed(one(just(0), 9, 9, 9), pack(10, 1)), all(3), spans(just(27)), spans(to(0, 3))},
		{changed(one(just(0), 9, 9, 9), pack(10, 2)), all(4), spans(just(27)), spans(to(5, 13))},
		{changed(one(to(3, 4), 9, 9, 9), pack(12, 4)), all(3), spans(to(23, 24)), spans(to(0, 13))},
		{changed(one(to(2, 4), 9, 9, 9), pack(12, 4)), all(4), spans(to(23, 25)), spans(to(7, 25))},
	} {
		wantPacks(t, i, x)
	}
}

// spare returns a book with room behind its lists, into which nothing may be written.
func spare(b api.HarnessBook) api.HarnessBook {
	b = clone(b)
	b.Hair.Hanks = append(b.Hair.Hanks, api.HairHank{Weight: just(77)})[:len(b.Hair.Hanks)]
	b.Hair.Horses = append(b.Hair.Horses, api.HairHorse{Mane: 77})[:len(b.Hair.Horses)]
	b.Stock = append(b.Stock, just(77))[:len(b.Stock)]
	b.Needs = append(b.Needs, all(77))[:len(b.Needs)]
	for i, l := range b.Needs {
		b.Needs[i] = append(l, 77)[:len(l)]
	}
	return b
}

// isSpare reports whether what lies behind the lists of a book still does.
func isSpare(b api.HarnessBook) bool {
	for _, l := range b.Needs {
		if n := len(l); l[:n+1][n] != 77 {
			return false
		}
	}
	n, m, k, h := len(b.Hair.Hanks), len(b.Hair.Horses), len(b.Stock), len(b.Needs)
	return b.Hair.Hanks[:n+1][n].Weight == just(77) && b.Hair.Horses[:m+1][m].Mane == 77 && b.Stock[:k+1][k] == just(77) && slices.Equal(b.Needs[:h+1][h], all(77))
}

// P10.8, P2, R4: arguments are not changed, results are new memory, and the same arguments have the same results.
func TestMemory(t *testing.T) {
	for i, b := range append(limits(), example(), example(scarce), example(poor), example(allBald), one(to(3, 4), 4, 3, 1)) {
		b = spare(b)
		before := clone(b)
		first, kept := ask(b, 0), ask(clone(b), 0)
		if !reflect.DeepEqual(first, kept) {
			t.Errorf("the book %d: %v, then %v", i, kept, first)
		}
		results := [][]int{first.sure, first.perhaps, first.order, first.queue}
		for k, l := range results {
			for m := range l {
				l[m] = 90 + k
			}
			_ = append(l, 99)
		}
		for k, l := range results {
			if slices.ContainsFunc(l, func(n int) bool { return n != 90+k }) {
				t.Errorf("the book %d: results share memory: %v", i, results)
			}
		}
		if second := ask(b, 0); !reflect.DeepEqual(second, kept) {
			t.Errorf("the book %d: %v, then %v", i, kept, second)
		}
		if !reflect.DeepEqual(b, before) || !isSpare(b) {
			t.Errorf("%v was changed to %v", before, b)
		}
	}
}

// P10.8: what is done to an argument later does not change a result.
func TestNothingIsRetained(t *testing.T) {
	for _, c := range []change{scarce, poor} {
		b := example(c)
		first, kept := ask(b, 1), ask(example(c), 1)
		for _, l := range b.Needs {
			clear(l)
		}
		clear(b.Needs)
		clear(b.Stock)
		clear(b.Hair.Hanks)
		clear(b.Hair.Horses)
		if !reflect.DeepEqual(first, kept) {
			t.Errorf("%v became %v", kept, first)
		}
		wantErrors(t, "the cleared book", ask(b, 1), api.ErrHarness)
		if second := ask(example(c), 1); !reflect.DeepEqual(second, kept) {
			t.Errorf("%v, then %v", kept, second)
		}
	}
}

// R3: there is no difference between a nil list and an empty one.
func TestEmptyLists(t *testing.T) {
	for kind := -1; kind < 3; kind++ {
		for _, c := range [][2]change{
			{hanks(), hanks([]api.HairHank{}...)},
			{func(b *api.HarnessBook) { b.Hair.Horses, b.Needs = nil, nil }, func(b *api.HarnessBook) { b.Hair.Horses, b.Needs = []api.HairHorse{}, [][]int{} }},
		} {
			empty := func(b *api.HarnessBook) {
				c[1](b)
				b.Hair.Hanks = append([]api.HairHank{}, b.Hair.Hanks...)
			}
			one, other := ask(example(c[0]), kind), ask(example(empty), kind)
			if !reflect.DeepEqual(one, other) {
				t.Errorf("with nil %v, with empty lists %v", one, other)
			}
		}
	}
	for _, c := range []change{stocks([]api.Span{}...), needs([][]int{}...), needs(all(1, 4), []int{}), needs([]int{}, []int{})} {
		wantErrors(t, "empty lists", ask(example(c), 0), api.ErrHarness)
	}
}
