package plank_test

import (
	"math"
	"reflect"
	"slices"
	"testing"

	"skewbald/api"
	"skewbald/plank"
)

func to(low, high int) api.Span { return api.Span{Low: low, High: high} }

func just(n int) api.Span { return to(n, n) }

func wood(long int, knots ...api.Span) api.PlankWood {
	return api.PlankWood{Long: long, Knots: knots}
}

// still is a part that cannot be turned, turns one that can.
func still(long int, joints ...int) api.PlankShape {
	return api.PlankShape{Long: long, Joints: joints}
}

func turns(long int, joints ...int) api.PlankShape {
	return api.PlankShape{Long: long, Joints: joints, Turns: true}
}

func planks(w ...api.PlankWood) []api.PlankWood { return w }

func book(w []api.PlankWood, parts ...api.PlankShape) api.PlankBook {
	return api.PlankBook{Planks: w, Parts: parts}
}

// example, alone and hidden are the books of the chapter's examples.
func example() api.PlankBook {
	return book(planks(wood(12, to(3, 4)), wood(8, just(6))), still(5, 0, 4), turns(4, 1), turns(4, 0))
}

func alone() api.PlankBook {
	b := example()
	b.Planks = b.Planks[1:]
	return b
}

func hidden() api.PlankBook {
	return book(planks(wood(9, to(2, 6))), still(5, 0, 4), still(4, 0, 3))
}

// wantErrors checks that each function returns an error, and otherwise zero values, whatever is asked.
func wantErrors(t *testing.T, name string, b api.PlankBook, want api.Errno) {
	t.Helper()
	if e := plank.Check(b); e != want {
		t.Errorf("%s: Check: %d", name, e)
	}
	for _, n := range []int{0, -1, 9, math.MinInt, math.MaxInt} {
		if answer, e := plank.Can(b, n, n, n); answer != 0 || e != want {
			t.Errorf("%s: Can %d: %d, %d", name, n, answer, e)
		}
		if l, e := plank.Spots(b, n, n); len(l) != 0 || e != want {
			t.Errorf("%s: Spots %d: %v, %d", name, n, l, e)
		}
		if l, e := plank.Lay(b, n, []int{n, n}); len(l) != 0 || e != want {
			t.Errorf("%s: Lay %d: %v, %d", name, n, l, e)
		}
	}
	if l, e := plank.Fewest(b); len(l) != 0 || e != want {
		t.Errorf("%s: Fewest: %v, %d", name, l, e)
	}
	if l, e := plank.Most(b); len(l) != 0 || e != want {
		t.Errorf("%s: Most: %v, %d", name, l, e)
	}
	if n, e := plank.Lacks(b); n != 0 || e != want {
		t.Errorf("%s: Lacks: %d, %d", name, n, e)
	}
	if p, k, e := plank.Look(b); p != 0 || k != 0 || e != want {
		t.Errorf("%s: Look: %d, %d, %d", name, p, k, e)
	}
}

// P1.1, P1, R2: a book that is not valid is the first error of all functions, even without knots and with wrong questions.
func TestWrongBooks(t *testing.T) {
	fine, part := wood(8), still(4)
	ones := slices.Repeat([]api.PlankShape{still(1)}, 6)
	for name, b := range map[string]api.PlankBook{
		"nothing":              {},
		"no planks":            book(nil, part),
		"four planks":          book(planks(fine, fine, fine, fine), part),
		"a plank of 0":         book(planks(wood(0)), part),
		"a plank below 0":      book(planks(fine, wood(-1)), part),
		"a plank of 17":        book(planks(fine, fine, wood(17)), part),
		"the longest plank":    book(planks(wood(math.MaxInt)), part),
		"the shortest plank":   book(planks(wood(math.MinInt, just(0))), part),
		"four knots":           book(planks(wood(8, just(0), just(1), just(2), just(3))), part),
		"a knot below 0":       book(planks(wood(8, to(-1, 2))), part),
		"a knot behind":        book(planks(wood(8, to(7, 8))), part),
		"a knot outside":       book(planks(wood(8, just(8))), part),
		"a knot of no inch":    book(planks(wood(8, to(4, 3))), part),
		"a knot 7 apart":       book(planks(wood(16, to(3, 10))), part),
		"the widest knot":      book(planks(wood(8, to(math.MinInt, math.MaxInt))), part),
		"the narrowest knot":   book(planks(wood(8, to(math.MaxInt, math.MinInt))), part),
		"the second knot":      book(planks(wood(8, just(0), to(0, 7))), part),
		"no parts":             book(planks(fine)),
		"six parts":            book(planks(fine), ones...),
		"a part of 0":          book(planks(fine), still(0)),
		"a part below 0":       book(planks(fine), part, still(-3)),
		"a part of 13":         book(planks(wood(16)), part, still(13)),
		"the longest part":     book(planks(fine), still(math.MaxInt)),
		"four joints":          book(planks(fine), still(4, 0, 1, 2, 3)),
		"a joint below 0":      book(planks(fine), still(4, -1)),
		"a joint behind":       book(planks(fine), still(4, 0, 4)),
		"the greatest joint":   book(planks(fine), turns(4, math.MinInt, math.MaxInt)),
		"a joint twice":        book(planks(fine), still(4, 2, 2)),
		"joints decrease":      book(planks(fine), still(4, 3, 0)),
		"the last two joints":  book(planks(fine), part, turns(4, 0, 2, 1)),
		"a plank and a part":   book(planks(wood(0)), still(0)),
		"a turn does not help": book(planks(fine), turns(4, 4)),
	} {
		wantErrors(t, name, b, api.ErrPlank)
	}
}

// P1.1, R3, R7: both ends of each limit are valid, and a nil list is like an empty one.
func TestRightBooks(t *testing.T) {
	for i, b := range []api.PlankBook{
		example(), alone(), hidden(),
		book(planks(wood(1)), still(1)),
		book(planks(wood(1, just(0))), still(1, 0)),
		book(planks(wood(16), wood(16), wood(16)), still(12), still(12), still(12), still(12), still(12)),
		book(planks(wood(16, to(0, 6), to(9, 15), just(15))), turns(12, 0, 1, 11)),
		book(planks(api.PlankWood{Long: 4, Knots: []api.Span{}}), api.PlankShape{Long: 4, Joints: []int{}}),
	} {
		if e := plank.Check(b); e != api.OK {
			t.Errorf("the right book %d: %d", i, e)
		}
	}
}

type canCase struct {
	b               api.PlankBook
	plank, part, at int
	want            int
	e               api.Errno
}

func checkCan(t *testing.T, cases []canCase) {
	t.Helper()
	for i, x := range cases {
		if answer, e := plank.Can(x.b, x.plank, x.part, x.at); answer != x.want || e != x.e {
			t.Errorf("Can %d: %d, %d", i, answer, e)
		}
	}
}

// P1.1: the answers of Can.
func TestCan(t *testing.T) {
	two := book(planks(wood(3, to(0, 1))), still(2, 0, 1), turns(2, 0))
	ends := book(planks(wood(4, to(0, 3))), turns(4, 0), still(4, 0), turns(4), still(4, 0, 3))
	checkCan(t, []canCase{
		{example(), 0, 0, 0, 1, api.OK}, {example(), 0, 0, 1, 2, api.OK}, {example(), 0, 0, 4, 1, api.OK}, {example(), 1, 0, 2, 0, api.OK},
		{example(), 0, 0, 7, 2, api.OK}, {example(), 1, 0, 3, 2, api.OK},
		// one of both joints always is where the knot is
		{two, 0, 0, 0, 0, api.OK}, {two, 0, 0, 1, 1, api.OK}, {two, 0, 1, 1, 2, api.OK}, {two, 0, 1, 0, 1, api.OK},
		// each way to lie is sound in some truths, neither in all of them
		{ends, 0, 0, 0, 1, api.OK}, {ends, 0, 1, 0, 1, api.OK}, {ends, 0, 2, 0, 2, api.OK}, {ends, 0, 3, 0, 1, api.OK},
		// a part that lies turned changes its joints, too
		{book(planks(wood(5, just(0))), turns(5, 0)), 0, 0, 0, 2, api.OK},
		{book(planks(wood(5, just(0))), still(5, 0)), 0, 0, 0, 0, api.OK},
		{book(planks(wood(5, just(0), just(4))), turns(5, 0)), 0, 0, 0, 0, api.OK},
		{book(planks(wood(5, just(3))), turns(5, 1)), 0, 0, 0, 2, api.OK},
		{book(planks(wood(5, just(1), just(3))), turns(5, 1)), 0, 0, 0, 0, api.OK},
		{book(planks(wood(5, just(1), to(3, 4))), turns(5, 1)), 0, 0, 0, 1, api.OK},
		// a knot that can be at a joint, and one that is beside all of them
		{book(planks(wood(5, just(1), to(2, 3))), still(5, 0, 2)), 0, 0, 0, 1, api.OK},
		{book(planks(wood(5, to(1, 2), just(0))), still(5, 0, 2)), 0, 0, 0, 0, api.OK},
		// no knots, or no joints
		{book(planks(wood(5)), still(5, 0, 2, 4)), 0, 0, 0, 2, api.OK},
		{book(planks(wood(5, just(0), to(1, 4))), still(5)), 0, 0, 0, 2, api.OK},
	})
}

// P1.1: questions that Can does not answer.
func TestCanAsk(t *testing.T) {
	short := book(planks(wood(3), wood(4)), still(4))
	checkCan(t, []canCase{
		{example(), -1, 0, 0, 0, api.ErrPlankAsk}, {example(), 2, 0, 0, 0, api.ErrPlankAsk},
		{example(), 0, -1, 0, 0, api.ErrPlankAsk}, {example(), 0, 3, 0, 0, api.ErrPlankAsk},
		{example(), 0, 0, -1, 0, api.ErrPlankAsk}, {example(), 0, 0, 8, 0, api.ErrPlankAsk}, {example(), 1, 0, 4, 0, api.ErrPlankAsk},
		{example(), 0, 0, math.MaxInt, 0, api.ErrPlankAsk}, {example(), 0, 0, math.MinInt, 0, api.ErrPlankAsk},
		{example(), math.MaxInt, 0, 0, 0, api.ErrPlankAsk}, {example(), 0, math.MinInt, 0, 0, api.ErrPlankAsk},
		{short, 0, 0, 0, 0, api.ErrPlankAsk}, {short, 0, 0, -1, 0, api.ErrPlankAsk}, {short, 1, 0, 0, 2, api.OK}, {short, 1, 0, 1, 0, api.ErrPlankAsk},
	})
}

// P1.2: the spots of a part.
func TestSpots(t *testing.T) {
	for i, x := range []struct {
		b           api.PlankBook
		plank, part int
		want        []int
		e           api.Errno
	}{
		{example(), 0, 0, []int{1, 2, 5, 6, 7}, api.OK},
		{example(), 0, 1, []int{0, 1, 3, 4, 5, 6, 7, 8}, api.OK},
		{example(), 0, 2, []int{0, 1, 2, 3, 4, 5, 6, 7, 8}, api.OK},
		{example(), 1, 0, []int{0, 1, 3}, api.OK},
		{hidden(), 0, 0, nil, api.OK}, {hidden(), 0, 1, nil, api.OK},
		{book(planks(wood(3)), still(4)), 0, 0, nil, api.OK},
		{book(planks(wood(4)), still(4, 0, 3)), 0, 0, []int{0}, api.OK},
		{book(planks(wood(4, just(3))), turns(3, 2)), 0, 0, []int{0, 1}, api.OK},
		{book(planks(wood(4, just(3))), still(3, 2)), 0, 0, []int{0}, api.OK},
		{book(planks(wood(16, just(8))), still(1, 0)), 0, 0, []int{0, 1, 2, 3, 4, 5, 6, 7, 9, 10, 11, 12, 13, 14, 15}, api.OK},
		{example(), 2, 0, nil, api.ErrPlankAsk}, {example(), -1, 0, nil, api.ErrPlankAsk},
		{example(), 0, 3, nil, api.ErrPlankAsk}, {example(), 0, -1, nil, api.ErrPlankAsk},
		{example(), math.MaxInt, math.MaxInt, nil, api.ErrPlankAsk},
	} {
		if l, e := plank.Spots(x.b, x.plank, x.part); !slices.Equal(l, x.want) || e != x.e {
			t.Errorf("Spots %d: %v, %d", i, l, e)
		}
	}
}

// P1.3: how parts are laid, and that a wrong question comes before parts that cannot be laid.
func TestLay(t *testing.T) {
	narrow := book(planks(wood(5, just(2))), still(3, 2), still(2, 0))
	for i, x := range []struct {
		b     api.PlankBook
		plank int
		parts []int
		want  []int
		e     api.Errno
	}{
		{example(), 0, []int{0, 1}, []int{1, 6}, api.OK}, {example(), 0, []int{0, 1, 2}, nil, api.ErrNone},
		{example(), 1, []int{1, 2}, []int{0, 4}, api.OK}, {example(), 1, []int{0}, []int{0}, api.OK},
		{example(), 0, []int{0, 2}, []int{1, 6}, api.OK}, {example(), 0, []int{1, 2}, []int{0, 4}, api.OK},
		{example(), 0, nil, nil, api.OK}, {example(), 0, []int{}, nil, api.OK}, {hidden(), 0, nil, nil, api.OK},
		{hidden(), 0, []int{0}, nil, api.ErrNone}, {hidden(), 0, []int{0, 1}, nil, api.ErrNone},
		// the part 0 lies behind the part 1, where the other order has no room
		{narrow, 0, []int{0, 1}, []int{2, 0}, api.OK}, {narrow, 0, []int{1}, []int{0}, api.OK},
		// the first places of the parts 0 and 1 leave none for the part 2
		{book(planks(wood(5, just(0))), still(1), still(2), still(2, 0)), 0, []int{0, 1, 2}, []int{0, 1, 3}, api.OK},
		{book(planks(wood(5, just(4))), still(1), still(2), turns(2, 1)), 0, []int{0, 1, 2}, []int{0, 1, 3}, api.OK},
		{book(planks(wood(3, just(1), just(2))), still(1), still(1, 0)), 0, []int{0, 1}, []int{1, 0}, api.OK},
		{book(planks(wood(16)), still(4), still(3), still(3), still(3), still(3)), 0, []int{0, 1, 2, 3, 4}, []int{0, 4, 7, 10, 13}, api.OK},
		{book(planks(wood(15)), still(4), still(3), still(3), still(3), still(3)), 0, []int{0, 1, 2, 3, 4}, nil, api.ErrNone},
		{example(), -1, []int{0}, nil, api.ErrPlankAsk}, {example(), 2, nil, nil, api.ErrPlankAsk}, {example(), math.MaxInt, nil, nil, api.ErrPlankAsk},
		{example(), 0, []int{3}, nil, api.ErrPlankAsk}, {example(), 0, []int{-1, 0}, nil, api.ErrPlankAsk},
		{example(), 0, []int{1, 0}, nil, api.ErrPlankAsk}, {example(), 0, []int{1, 1}, nil, api.ErrPlankAsk}, {example(), 0, []int{0, 2, 1}, nil, api.ErrPlankAsk},
		{hidden(), 0, []int{0, 2}, nil, api.ErrPlankAsk}, {hidden(), 0, []int{1, 0}, nil, api.ErrPlankAsk}, {hidden(), 1, []int{0}, nil, api.ErrPlankAsk},
		{example(), 0, []int{0, 1, 2, 0, 1, 2, 0}, nil, api.ErrPlankAsk}, {example(), 0, []int{0, 1, 2, 3}, nil, api.ErrPlankAsk},
	} {
		if l, e := plank.Lay(x.b, x.plank, x.parts); !slices.Equal(l, x.want) || e != x.e {
			t.Errorf("Lay %d: %v, %d", i, l, e)
		}
	}
}

// woods has a plank that is good for all but a joint in its inch 0, one that is clear, and one with room for two.
func woods() []api.PlankWood {
	return planks(wood(4, just(0)), wood(4), wood(8, just(3)))
}

// P1.4: the fewest planks come before the first ones.
func TestFewest(t *testing.T) {
	for i, x := range []struct {
		b    api.PlankBook
		want []int
		e    api.Errno
	}{
		{example(), []int{0, 1}, api.OK}, {alone(), nil, api.ErrNone}, {hidden(), nil, api.ErrNone},
		{book(woods(), still(4)), []int{0}, api.OK}, {book(woods(), still(4, 0)), []int{1}, api.OK},
		{book(woods(), still(8)), []int{2}, api.OK}, {book(woods(), still(8, 3)), nil, api.ErrNone},
		{book(woods(), still(4), still(4)), []int{2}, api.OK}, {book(woods(), turns(4, 3), turns(4, 0)), []int{2}, api.OK},
		{book(woods(), still(4, 3), still(4, 3)), []int{0, 1}, api.OK}, {book(woods(), still(4), still(4), still(4)), []int{0, 2}, api.OK},
		{book(woods(), still(4, 0), still(4), still(4, 0)), []int{0, 2}, api.OK}, {book(woods(), still(4, 0), still(4, 0), still(4, 0)), []int{1, 2}, api.OK}, {book(woods(), still(4), still(4), still(4), still(4)), []int{0, 1, 2}, api.OK},
		{book(woods(), still(4), still(4), still(4), still(4), still(1)), nil, api.ErrNone},
	} {
		if l, e := plank.Fewest(x.b); !slices.Equal(l, x.want) || e != x.e {
			t.Errorf("Fewest %d: %v, %d", i, l, e)
		}
	}
}

// P1.5: the most parts come before the first ones.
func TestMost(t *testing.T) {
	for i, x := range []struct {
		b    api.PlankBook
		want []int
	}{
		{example(), []int{0, 1, 2}}, {alone(), []int{1, 2}}, {hidden(), nil},
		{book(planks(wood(8)), still(8), still(4), still(4)), []int{1, 2}},
		{book(planks(wood(4)), still(4), still(4)), []int{0}},
		{book(planks(wood(4, just(0))), still(4, 0), still(4)), []int{1}},
		{book(planks(wood(8)), still(3), still(4), still(3), still(2)), []int{0, 2, 3}},
		{book(planks(wood(9)), still(3), still(4), still(3), still(2)), []int{0, 1, 3}},
		{book(planks(wood(6)), still(5), still(3), still(3), still(1)), []int{0, 3}},
		{book(woods(), still(4), still(8, 3), still(4)), []int{0, 2}},
		{book(woods(), still(4), still(4), still(4), still(4), still(1)), []int{0, 1, 2, 3}},
		{book(woods(), still(1), still(1), still(1), still(1), still(1)), []int{0, 1, 2, 3, 4}},
	} {
		if l, e := plank.Most(x.b); !slices.Equal(l, x.want) || e != api.OK {
			t.Errorf("Most %d: %v, %d", i, l, e)
		}
	}
}

// P1.6: the first part for which there is no wood.
func TestLacks(t *testing.T) {
	for i, x := range []struct {
		b    api.PlankBook
		want int
		e    api.Errno
	}{
		{example(), 0, api.ErrNone}, {alone(), 1, api.OK}, {hidden(), 0, api.OK},
		{book(woods(), still(4), still(8, 3), still(4)), 1, api.OK},
		{book(woods(), still(4), still(4), still(4), still(4), still(1)), 4, api.OK},
		{book(woods(), still(4), still(4), still(4), still(4)), 0, api.ErrNone},
		{book(planks(wood(4)), still(4), still(4), still(4)), 1, api.OK},
	} {
		if n, e := plank.Lacks(x.b); n != x.want || e != x.e {
			t.Errorf("Lacks %d: %d, %d", i, n, e)
		}
	}
}

// P1.7: the knot that it is best to look for.
func TestLook(t *testing.T) {
	one := still(3, 0)
	for i, x := range []struct {
		b           api.PlankBook
		plank, knot int
		e           api.Errno
	}{
		{example(), 0, 0, api.OK}, {hidden(), 0, 0, api.OK},
		{book(planks(wood(5), wood(5)), still(5, 0)), 0, 0, api.ErrNone},
		{book(planks(wood(5), wood(5)), still(12)), 0, 0, api.ErrNone},
		// only the knot that hides the last good inch helps
		{book(planks(wood(4, just(3), to(0, 1))), one), 0, 1, api.OK},
		{book(planks(wood(3), wood(4, to(0, 1))), one), 1, 0, api.OK},
		{book(planks(wood(2, just(0)), wood(2, just(1), just(0)), wood(4, just(2), just(3), to(0, 1))), one), 2, 2, api.OK},
		// a knot that is known already is looked for if nothing is better
		{book(planks(wood(4, just(1), to(0, 1))), one), 0, 0, api.OK},
		// the first plank, and there the first knot, of several as good ones
		{book(planks(wood(4, to(0, 1)), wood(4, to(0, 1))), one), 0, 0, api.OK},
		{book(planks(wood(4), wood(4, just(3), just(3))), one), 1, 0, api.OK},
		// the worst inch counts, not the best one
		{book(planks(wood(3, to(0, 2)), wood(4, to(0, 1))), one), 1, 0, api.OK},
	} {
		if p, k, e := plank.Look(x.b); p != x.plank || k != x.knot || e != x.e {
			t.Errorf("Look %d: %d, %d, %d", i, p, k, e)
		}
	}
}

// told is all that the functions return of a book.
func told(b api.PlankBook) []any {
	var all []any
	note := func(values ...any) { all = append(all, values...) }
	for p := range b.Planks {
		for s := range b.Parts {
			for at := range b.Planks[p].Long {
				answer, e := plank.Can(b, p, s, at)
				note(answer, e)
			}
			l, e := plank.Spots(b, p, s)
			note(l, e)
		}
		for _, parts := range subsets(len(b.Parts)) {
			l, e := plank.Lay(b, p, parts)
			note(l, e)
		}
	}
	fewest, e := plank.Fewest(b)
	most, f := plank.Most(b)
	lacks, g := plank.Lacks(b)
	p, k, h := plank.Look(b)
	note(plank.Check(b), fewest, e, most, f, lacks, g, p, k, h)
	return all
}

// P1.8, P2, R4: no call changes a book, and the same book always has the same results, whatever is done with earlier ones.
func TestBooksAreOnlyRead(t *testing.T) {
	for i, b := range append(books(8, 40, 12, 5), example(), alone(), hidden()) {
		before := clone(b)
		first := told(b)
		if !reflect.DeepEqual(b, before) {
			t.Fatalf("the book %d has changed: %v, %v", i, before, b)
		}
		for _, l := range told(b) {
			if list, ok := l.([]int); ok {
				for n := range list[:cap(list)] {
					list[:cap(list)][n] = -7
				}
			}
		}
		if !reflect.DeepEqual(b, before) {
			t.Fatalf("a result shares memory with the book %d", i)
		}
		if again := told(clone(b)); !reflect.DeepEqual(again, first) {
			t.Fatalf("the book %d: %v, then %v", i, first, again)
		}
	}
}

// P1.8, R4: the list that Lay is given is only read, also behind its end, and its result is none of it.
func TestLayIsNewMemory(t *testing.T) {
	room := []int{0, 1, 99, 99}
	one, e := plank.Lay(example(), 0, room[:2])
	if !slices.Equal(room, []int{0, 1, 99, 99}) || e != api.OK {
		t.Errorf("the parts have changed: %v, %d", room, e)
	}
	one[0], one[1] = 7, 7
	if room[0] != 0 || room[1] != 1 {
		t.Errorf("the result shares memory with the parts: %v", room)
	}
	other, _ := plank.Lay(example(), 0, room[:2])
	room[0], room[1] = 5, 5
	if !slices.Equal(other, []int{1, 6}) {
		t.Errorf("the result has changed: %v", other)
	}
}
