package dapple_test

import (
	"math"
	"reflect"
	"slices"
	"testing"

	"skewbald/api"
	"skewbald/dapple"
)

// open is the set of all sizes.
const open = 15

// or returns the set of some sizes.
func or(sizes ...int) int {
	set := 0
	for _, n := range sizes {
		set |= 1 << n
	}
	return set
}

// row returns the sets of a horse whose sizes are known.
func row(sizes ...int) []int {
	var sets []int
	for _, n := range sizes {
		sets = append(sets, or(n))
	}
	return sets
}

// all returns so many times the same number.
func all(n, many int) []int { return slices.Repeat([]int{n}, many) }

func book(round int, horses ...[]int) api.DappleBook {
	return api.DappleBook{Round: round, Horses: horses}
}

type change func(b *api.DappleBook)

// changed returns a changed copy of a book.
func changed(b api.DappleBook, changes ...change) api.DappleBook {
	b = clone(b)
	for _, c := range changes {
		c(&b)
	}
	return b
}

// example is the book of the chapter's examples, changed.
func example(changes ...change) api.DappleBook {
	return changed(book(4, row(1, 0, 2, 0), row(2, 0, 1, 0), []int{or(0, 1), or(2), or(0), or(1)}, row(3, 3, 3, 3)), changes...)
}

// worn is the change of the chapter's examples.
func worn(b *api.DappleBook) { b.Horses = append(b.Horses, all(open, 4)) }

func round(n int) change { return func(b *api.DappleBook) { b.Round = n } }

func horses(l ...[]int) change { return func(b *api.DappleBook) { b.Horses = l } }

func horse(n int, sets ...int) change { return func(b *api.DappleBook) { b.Horses[n] = sets } }

// answers are the results of all functions for a book and a question, with the error of each.
type answers struct {
	same                      int
	clash, sure, look         [2]int
	turns, whose, free, drops []int
	errors                    [9]api.Errno
}

// question is what is asked of a book.
type question struct {
	one, other int
	row        []int
}

func ask(b api.DappleBook, q question) answers {
	var a answers
	a.errors[0] = dapple.Check(b)
	a.turns, a.errors[1] = dapple.Turns(b, q.one, q.other)
	a.same, a.errors[2] = dapple.Same(b, q.one, q.other)
	a.clash[0], a.clash[1], a.errors[3] = dapple.Clash(b)
	a.sure[0], a.sure[1], a.errors[4] = dapple.Sure(b)
	a.whose, a.errors[5] = dapple.Whose(b, q.row)
	a.free, a.errors[6] = dapple.New(b)
	a.drops, a.errors[7] = dapple.Drop(b)
	a.look[0], a.look[1], a.errors[8] = dapple.Look(b)
	return a
}

// wrongBooks are books each of which is wrong in one place.
func wrongBooks() map[string]api.DappleBook {
	books := map[string]api.DappleBook{
		"nothing":            {},
		"only Round":         {Round: 4},
		"only a horse":       {Horses: [][]int{{1}}},
		"an empty horse":     book(0, []int{}),
		"a horse with none":  book(1, nil),
		"9 places":           book(9, all(1, 9)),
		"many places":        book(1000, all(1, 1000)),
		"no horses":          example(horses()),
		"7 horses":           example(horses(slices.Repeat([][]int{row(1, 2, 3, 0)}, 7)...)),
		"many horses":        example(horses(slices.Repeat([][]int{row(1, 2, 3, 0)}, 1000)...)),
		"one place too few":  example(round(3)),
		"one place too many": example(round(5)),
	}
	for name, n := range map[string]int{"0": 0, "-1": -1, "far below 0": math.MinInt, "far above": math.MaxInt, "9": 9} {
		books["Round "+name] = example(round(n))
	}
	for i := range 4 {
		name := " of a horse " + string(rune('0'+i))
		books["the place too few"+name] = example(horse(i, row(1, 2, 3)...))
		books["the place too many"+name] = example(horse(i, row(1, 2, 3, 0, 1)...))
		books["no places"+name] = example(horse(i))
		books["many places"+name] = example(horse(i, all(1, 1000)...))
		for place := range 4 {
			for what, n := range map[string]int{"the set 0": 0, "the set 16": 16, "the set 17": 17, "the set -1": -1, "the set far below 0": math.MinInt, "the set far above": math.MaxInt} {
				books[what+" at "+string(rune('0'+place))+name] = example(func(b *api.DappleBook) { b.Horses[i][place] = n })
			}
		}
	}
	return books
}

// wantErrors checks that all functions returned one error, and zero values.
func wantErrors(t *testing.T, name string, a answers, want api.Errno) {
	t.Helper()
	for n, e := range a.errors {
		if e != want {
			t.Errorf("%s: the error of the function %d: %d", name, n, e)
		}
	}
	if len(a.turns)+len(a.whose)+len(a.free)+len(a.drops) > 0 {
		t.Errorf("%s: %v", name, a)
	}
	a.errors, a.turns, a.whose, a.free, a.drops = [9]api.Errno{}, nil, nil, nil, nil
	if !reflect.DeepEqual(a, answers{}) {
		t.Errorf("%s: %v", name, a)
	}
}

// P7.1, P1, R1, R2, R8: a book that is not valid is the first error of all functions, even with wrong questions; of several errors in it too.
func TestWrongBooks(t *testing.T) {
	asked := []question{
		{one: 0, other: 1, row: []int{0, 0, 0, 0}},
		{one: 0, other: 0, row: nil},
		{one: -1, other: 4, row: []int{0, 0, 0}},
		{one: math.MinInt, other: math.MaxInt, row: []int{math.MinInt, 4, -1, math.MaxInt}},
	}
	for name, b := range wrongBooks() {
		for _, q := range asked {
			wantErrors(t, name, ask(b, q), api.ErrDapple)
			q.row = make([]int, min(max(b.Round, 0), 2000))
			wantErrors(t, name, ask(b, q), api.ErrDapple)
		}
	}
	several := api.DappleBook{Round: -1, Horses: [][]int{{0}, {16, -1}, nil, nil, nil, nil, nil, nil}}
	wantErrors(t, "all is wrong", ask(several, question{one: -1, other: -1, row: []int{4}}), api.ErrDapple)
}

// limits are books with the least and the greatest of all numbers.
func limits() []api.DappleBook {
	return []api.DappleBook{
		book(1, []int{1}),
		book(1, []int{open}),
		book(1, row(0), row(1), row(2), row(3), row(0), row(1)),
		book(1, slices.Repeat([][]int{{open}}, 6)...),
		book(8, all(1, 8)),
		book(8, all(open, 8)),
		book(8, row(0, 1, 2, 3, 0, 1, 2, 3), row(3, 2, 1, 0, 3, 2, 1, 0)),
		book(8, slices.Repeat([][]int{row(0, 0, 0, 0, 0, 0, 0, 3)}, 6)...),
		book(8, []int{1, 2, 4, 8, 15, 3, 12, 5}, all(1, 8), all(8, 8), all(14, 8), all(7, 8), []int{8, 8, 8, 8, 8, 8, 8, 9}),
	}
}

// P7.1, R7: both ends of each limit are valid, and all that lies between them.
func TestRightBooks(t *testing.T) {
	right := func(b api.DappleBook) {
		t.Helper()
		if e := dapple.Check(b); e != api.OK {
			t.Errorf("Check %v: %d", b, e)
		}
	}
	for _, b := range append(limits(), example(), example(worn)) {
		right(b)
	}
	for many := 1; many <= api.DappleHorses; many++ {
		for round := 1; round <= api.DappleRound; round++ {
			for set := 1; set < 1<<api.DappleSizes; set++ {
				right(book(round, slices.Repeat([][]int{all(set, round)}, many)...))
			}
		}
	}
}

// wantPairError checks that two numbers are not those of two horses.
func wantPairError(t *testing.T, b api.DappleBook, one, other int) {
	t.Helper()
	if l, e := dapple.Turns(b, one, other); len(l) != 0 || e != api.ErrDappleAsk {
		t.Errorf("Turns %v, %d, %d: %v, %d", b, one, other, l, e)
	}
	if n, e := dapple.Same(b, one, other); n != 0 || e != api.ErrDappleAsk {
		t.Errorf("Same %v, %d, %d: %d, %d", b, one, other, n, e)
	}
}

// P7.1, P7.2: numbers that are no horse's, and two of one and the same horse.
func TestWrongPairs(t *testing.T) {
	for _, b := range append(limits(), example(), example(worn)) {
		many := len(b.Horses)
		wrong := []int{-1, many, many + 1, 6, math.MinInt, math.MaxInt}
		for _, n := range wrong {
			for _, m := range wrong {
				wantPairError(t, b, n, m)
			}
			for horse := range many {
				wantPairError(t, b, n, horse)
				wantPairError(t, b, horse, n)
			}
		}
		for one := range many {
			wantPairError(t, b, one, one)
			for other := range many {
				if _, e := dapple.Turns(b, one, other); one != other && e != api.OK {
					t.Errorf("Turns %v, %d, %d: %d", b, one, other, e)
				}
				if _, e := dapple.Same(b, one, other); one != other && e != api.OK {
					t.Errorf("Same %v, %d, %d: %d", b, one, other, e)
				}
			}
		}
	}
}

// P7.4: a row that is too short, too long, or has a number that is no size.
func TestWrongRows(t *testing.T) {
	wrong := func(b api.DappleBook, row []int) {
		t.Helper()
		if l, e := dapple.Whose(b, row); len(l) != 0 || e != api.ErrDappleAsk {
			t.Errorf("Whose %v, %v: %v, %d", b, row, l, e)
		}
	}
	for _, b := range append(limits(), example(), example(worn)) {
		for long := range 12 {
			if long != b.Round {
				wrong(b, make([]int, long))
			}
		}
		wrong(b, nil)
		wrong(b, make([]int, 1000))
		for place := range b.Round {
			for _, n := range []int{-1, 4, 5, 15, math.MinInt, math.MaxInt} {
				row := make([]int, b.Round)
				row[place] = n
				wrong(b, row)
			}
		}
		for size := range api.DappleSizes {
			if _, e := dapple.Whose(b, all(size, b.Round)); e != api.OK {
				t.Errorf("Whose %v, all of the size %d: %d", b, size, e)
			}
		}
	}
}

// P7.1, P7.2, P7.10: Turns and Same, each of the first horse first, and of the second one first.
func TestPairs(t *testing.T) {
	for i, x := range []struct {
		b          api.DappleBook
		one, other int
		turns      []int
		back       []int
		same       int
	}{
		{example(), 0, 1, []int{2}, []int{2}, 2},
		{example(), 0, 2, []int{1}, []int{3}, 1},
		{example(), 1, 2, []int{3}, []int{1}, 1},
		{example(), 0, 3, nil, nil, 0},
		{example(), 2, 3, nil, nil, 0},
		{example(worn), 3, 4, []int{0, 1, 2, 3}, []int{0, 1, 2, 3}, 1},
		{example(worn), 2, 4, []int{0, 1, 2, 3}, []int{0, 1, 2, 3}, 1},
		// A place, and a horse that has no other.
		{book(1, row(3), row(3)), 0, 1, []int{0}, []int{0}, 2},
		{book(1, row(3), row(2)), 0, 1, nil, nil, 0},
		{book(1, row(3), []int{or(0, 3)}), 0, 1, []int{0}, []int{0}, 1},
		{book(1, row(3), []int{or(0, 1, 2)}), 0, 1, nil, nil, 0},
		{book(1, []int{open}, []int{open}), 0, 1, []int{0}, []int{0}, 1},
		{book(1, []int{or(0, 1)}, []int{or(2, 3)}), 0, 1, nil, nil, 0},
		{book(1, []int{or(0, 1)}, []int{or(0, 1)}), 0, 1, []int{0}, []int{0}, 1},
		// Turns that differ by which horse is named first.
		{book(3, row(0, 1, 2), row(1, 2, 0)), 0, 1, []int{1}, []int{2}, 2},
		{book(3, row(0, 1, 2), row(2, 0, 1)), 0, 1, []int{2}, []int{1}, 2},
		{book(3, row(0, 1, 2), row(0, 1, 2)), 0, 1, []int{0}, []int{0}, 2},
		{book(3, row(0, 1, 2), row(0, 2, 1)), 0, 1, nil, nil, 0},
		{book(5, row(0, 0, 0, 1, 1), row(0, 1, 1, 0, 0)), 0, 1, []int{2}, []int{3}, 2},
		{book(8, row(0, 1, 2, 3, 3, 2, 1, 1), row(1, 0, 1, 2, 3, 3, 2, 1)), 0, 1, []int{7}, []int{1}, 2},
		{book(8, row(0, 1, 2, 3, 3, 2, 1, 1), row(1, 2, 3, 3, 2, 1, 1, 0)), 0, 1, []int{1}, []int{7}, 2},
		{book(8, row(0, 1, 2, 3, 3, 2, 1, 1), row(1, 2, 3, 3, 2, 1, 1, 1)), 0, 1, nil, nil, 0},
		// Several turns in which they surely are the same.
		{book(4, row(0, 1, 0, 1), row(1, 0, 1, 0)), 0, 1, []int{1, 3}, []int{1, 3}, 2},
		{book(4, row(2, 2, 2, 2), row(2, 2, 2, 2)), 0, 1, []int{0, 1, 2, 3}, []int{0, 1, 2, 3}, 2},
		{book(8, all(1, 8), all(1, 8)), 0, 1, []int{0, 1, 2, 3, 4, 5, 6, 7}, []int{0, 1, 2, 3, 4, 5, 6, 7}, 2},
		{book(6, row(0, 1, 2, 0, 1, 2), row(2, 0, 1, 2, 0, 1)), 0, 1, []int{2, 5}, []int{1, 4}, 2},
		// Whichever size it is, they can be the same, but in other turns; so that they are not in each truth.
		{book(2, []int{or(0, 1), 1}, []int{1, or(0, 1)}), 0, 1, []int{0, 1}, []int{0, 1}, 1},
		{book(2, []int{or(0, 1), or(0, 1)}, []int{or(0, 1), or(0, 1)}), 0, 1, []int{0, 1}, []int{0, 1}, 1},
		{book(2, row(0, 1), []int{or(0, 1), or(0, 1)}), 0, 1, []int{0, 1}, []int{0, 1}, 1},
		{book(3, row(0, 0, 1), []int{or(0, 1), or(0), or(0, 1)}), 0, 1, []int{0, 2}, []int{0, 1}, 1},
		{book(3, row(0, 0, 1), []int{or(0, 1), or(0, 1), or(0)}), 0, 1, []int{1, 2}, []int{1, 2}, 1},
		// One size alone is not known, of the one or of the other.
		{book(3, row(0, 1, 2), []int{or(1), or(2), or(0, 3)}), 0, 1, []int{1}, []int{2}, 1},
		{book(3, []int{or(1), or(2), or(0, 3)}, row(0, 1, 2)), 0, 1, []int{2}, []int{1}, 1},
		{book(3, []int{or(0), or(1), or(1, 2)}, []int{or(0), or(1), or(1, 2)}), 0, 1, []int{0}, []int{0}, 1},
		// At one place they cannot, the first or the last.
		{book(3, row(0, 0, 1), []int{or(1, 2), or(0), or(2)}), 0, 1, nil, nil, 0},
		{book(3, []int{or(0, 1), open, open}, []int{or(2), or(2), or(2)}), 0, 1, nil, nil, 0},
		{book(3, []int{open, open, or(0, 1)}, []int{or(3), or(2), or(2)}), 0, 1, nil, nil, 0},
		// Others do not matter.
		{book(2, row(0, 0), row(0, 1), all(open, 2), row(1, 0), all(open, 2), row(1, 1)), 1, 3, []int{1}, []int{1}, 2},
		{book(2, row(0, 0), row(0, 1), all(open, 2), row(1, 0), all(open, 2), row(1, 1)), 0, 5, nil, nil, 0},
	} {
		for k, pair := range [][2]int{{x.one, x.other}, {x.other, x.one}} {
			want := [][]int{x.turns, x.back}[k]
			if l, e := dapple.Turns(x.b, pair[0], pair[1]); !slices.Equal(l, want) || e != api.OK {
				t.Errorf("Turns %d of %v: %v, %d", i, pair, l, e)
			}
			if n, e := dapple.Same(x.b, pair[0], pair[1]); n != x.same || e != api.OK {
				t.Errorf("Same %d of %v: %d, %d", i, pair, n, e)
			}
		}
	}
}

// wantPair checks what a function returns: a pair, or that there is none.
func wantPair(t *testing.T, name string, i int, want []int, one, other int, e api.Errno) {
	t.Helper()
	pair, wanted := [2]int{}, api.ErrNone
	if want != nil {
		pair, wanted = [2]int(want), api.OK
	}
	if one != pair[0] || other != pair[1] || e != wanted {
		t.Errorf("%s %d: %d, %d, %d", name, i, one, other, e)
	}
}

// P7.3: Clash and Sure. No pair is none at all.
func TestFirstPairs(t *testing.T) {
	none := []int(nil)
	one := func(sets ...int) api.DappleBook {
		b := book(1)
		for _, set := range sets {
			b.Horses = append(b.Horses, []int{set})
		}
		return b
	}
	for i, x := range []struct {
		b           api.DappleBook
		clash, sure []int
	}{
		{example(), []int{0, 1}, []int{0, 1}},
		{example(worn), []int{0, 1}, []int{0, 1}},
		{example(horse(1, row(2, 1, 0, 0)...)), []int{0, 2}, none},
		{example(horse(0, row(3, 3, 3, 0)...)), []int{1, 2}, none},
		{example(horse(0, row(3, 3, 3, 3)...)), []int{0, 3}, []int{0, 3}},
		{example(horse(2, row(3, 3, 3, 3)...), horse(0, row(0, 0, 0, 0)...)), []int{2, 3}, []int{2, 3}},
		// A horse alone.
		{one(open), none, none},
		{one(1), none, none},
		{book(8, all(open, 8)), none, none},
		// None, some, all.
		{one(1, 2, 4, 8), none, none},
		{one(3, 12), none, none},
		{one(1, 2, 4, 8, 1, 2), []int{0, 4}, []int{0, 4}},
		{one(1, 2, 4, 8, 2, 1), []int{0, 5}, []int{0, 5}},
		{one(1, 2, 4, 8, 4, 8), []int{2, 4}, []int{2, 4}},
		{one(1, 2, 4, 8, 8, 8), []int{3, 4}, []int{3, 4}},
		{one(1, 2, 2, 1), []int{0, 3}, []int{0, 3}},
		{one(1, 2, 2, 4), []int{1, 2}, []int{1, 2}},
		{one(1, 2, 4, 4), []int{2, 3}, []int{2, 3}},
		{one(1, 2, 4, 8, 3, 12), []int{0, 4}, none},
		{one(3, 3, 3, 3, 3, 3), []int{0, 1}, none},
		{one(3, 12, 1, 4, 3, 1), []int{0, 2}, []int{2, 5}},
		{one(3, 12, 1, 4, 4, 1), []int{0, 2}, []int{2, 5}},
		{one(3, 12, 1, 4, 4, 2), []int{0, 2}, []int{3, 4}},
		{one(open, 1, 2, 4, 8, 8), []int{0, 1}, []int{4, 5}},
		{one(8, 8, 1, 1, 4, 4), []int{0, 1}, []int{0, 1}},
		{book(8, row(0, 1, 2, 3, 3, 2, 1, 1), all(1, 8), row(1, 1, 0, 1, 2, 3, 3, 2), all(1, 8)), []int{0, 2}, []int{0, 2}},
	} {
		n, m, e := dapple.Clash(x.b)
		wantPair(t, "Clash", i, x.clash, n, m, e)
		n, m, e = dapple.Sure(x.b)
		wantPair(t, "Sure", i, x.sure, n, m, e)
	}
}

// P7.4: Whose.
func TestWhose(t *testing.T) {
	for i, x := range []struct {
		b         api.DappleBook
		row, want []int
	}{
		{example(), []int{2, 0, 1, 0}, []int{0, 1, 2}},
		{example(), []int{1, 1, 2, 0}, []int{2}},
		{example(), []int{3, 3, 3, 3}, []int{3}},
		{example(), []int{0, 0, 0, 0}, nil},
		{example(worn), []int{0, 0, 0, 0}, []int{4}},
		{example(worn), []int{1, 1, 2, 0}, []int{2, 4}},
		{example(worn), []int{2, 0, 1, 0}, []int{0, 1, 2, 4}},
		{example(), []int{2, 1, 0, 0}, nil},
		{example(), []int{3, 3, 3, 2}, nil},
		// From another place on, and not the other way round.
		{book(3, row(0, 1, 2)), []int{0, 1, 2}, []int{0}},
		{book(3, row(0, 1, 2)), []int{1, 2, 0}, []int{0}},
		{book(3, row(0, 1, 2)), []int{2, 0, 1}, []int{0}},
		{book(3, row(0, 1, 2)), []int{2, 1, 0}, nil},
		{book(3, row(0, 1, 2)), []int{1, 0, 2}, nil},
		{book(3, row(0, 1, 2)), []int{0, 2, 1}, nil},
		{book(8, row(0, 1, 2, 3, 3, 2, 1, 1)), []int{1, 0, 1, 2, 3, 3, 2, 1}, []int{0}},
		{book(8, row(0, 1, 2, 3, 3, 2, 1, 1)), []int{1, 2, 3, 3, 2, 1, 1, 0}, []int{0}},
		{book(8, row(0, 1, 2, 3, 3, 2, 1, 1)), []int{1, 1, 2, 3, 3, 2, 1, 0}, nil},
		// Some of the sizes, in one turn together.
		{book(2, []int{or(0, 1), or(2, 3)}), []int{0, 2}, []int{0}},
		{book(2, []int{or(0, 1), or(2, 3)}), []int{3, 1}, []int{0}},
		{book(2, []int{or(0, 1), or(2, 3)}), []int{0, 1}, nil},
		{book(2, []int{or(0, 1), or(2, 3)}), []int{2, 3}, nil},
		{book(3, []int{or(0), or(0, 1), or(1, 2)}), []int{2, 0, 1}, []int{0}},
		{book(3, []int{or(0), or(0, 1), or(1, 2)}), []int{1, 1, 1}, nil},
		{book(3, []int{or(0), or(0, 1), or(1, 2)}), []int{0, 0, 0}, nil},
		{book(3, []int{or(0), or(0, 1), or(1, 2)}), []int{1, 0, 1}, []int{0}},
		{book(3, []int{or(0), or(0, 1), or(1, 2)}), []int{2, 0, 2}, nil},
		// The ends.
		{book(1, []int{open}), []int{3}, []int{0}},
		{book(1, row(3)), []int{3}, []int{0}},
		{book(1, row(3)), []int{2}, nil},
		{book(1, row(0), row(3), []int{or(0, 3)}, row(1), row(3), []int{or(1, 2)}), []int{3}, []int{1, 2, 4}},
		{book(1, row(0), row(3), []int{or(0, 3)}, row(1), row(3), []int{or(1, 2)}), []int{2}, []int{5}},
		{book(1, row(0), row(3), []int{or(0, 3)}, row(1), row(3), []int{open}), []int{0}, []int{0, 2, 5}},
		{book(8, slices.Repeat([][]int{all(open, 8)}, 6)...), []int{0, 1, 2, 3, 0, 0, 3, 1}, []int{0, 1, 2, 3, 4, 5}},
	} {
		if l, e := dapple.Whose(x.b, x.row); !slices.Equal(l, x.want) || e != api.OK {
			t.Errorf("Whose %d: %v, %d", i, l, e)
		}
	}
}

// P7.5: New. No row is none at all.
func TestNew(t *testing.T) {
	for i, x := range []struct {
		b    api.DappleBook
		want []int
	}{
		{example(), []int{0, 0, 0, 0}},
		{example(worn), nil},
		{example(horse(3, row(0, 0, 0, 0)...)), []int{0, 0, 0, 1}},
		{example(horse(3, row(1, 0, 0, 0)...), horse(0, row(0, 0, 0, 0)...)), []int{0, 0, 0, 2}},
		{example(horse(3, or(0, 1), or(0), or(0), or(0))), []int{0, 0, 0, 2}},
		{example(horse(3, or(0), or(0), open, or(0))), []int{0, 0, 1, 1}},
		{example(horse(3, or(0), open, or(0, 1), or(0))), []int{0, 0, 1, 2}},
		{example(horse(3, open, or(0, 1, 2), or(0), or(0))), []int{0, 0, 1, 3}},
		{example(horse(3, open, or(0), open, or(0))), []int{0, 0, 1, 1}},
		{example(horse(3, open, or(0), or(0), open)), []int{0, 1, 0, 1}},
		{example(horse(3, or(0, 1), or(0, 1), or(0, 1), or(0, 1))), []int{0, 0, 0, 2}},
		{example(horse(3, or(1, 2, 3), open, open, open)), []int{0, 0, 0, 0}},
		{example(horse(3, open, open, open, or(0, 1, 2))), []int{3, 3, 3, 3}},
		{example(horse(3, open, open, open, or(0, 1, 3))), []int{2, 2, 2, 2}},
		{example(horse(3, or(0, 1), open, open, open)), []int{2, 2, 2, 2}},
		{example(horse(3, open, or(0, 1, 2), open, or(0, 1, 2))), []int{0, 0, 3, 3}},
		// Each size, at one place.
		{book(1, row(3)), []int{0}},
		{book(1, row(0)), []int{1}},
		{book(1, row(1), row(0)), []int{2}},
		{book(1, row(1), row(2), row(0)), []int{3}},
		{book(1, []int{or(0, 2, 3)}), []int{1}},
		{book(1, []int{or(0, 1, 2)}), []int{3}},
		{book(1, []int{open}), nil},
		{book(1, row(3), row(2), row(1), row(0)), nil},
		{book(1, []int{or(0, 3)}, []int{or(1, 2)}), nil},
		{book(1, []int{or(0, 3)}, []int{or(1, 3)}), []int{2}},
		// Several horses have all rows together, or all but the last one.
		{book(2, []int{open, or(0, 1, 2)}, row(3, 3)), nil},
		{book(2, []int{open, or(0, 1, 2)}), []int{3, 3}},
		{book(2, []int{open, or(0, 1)}, []int{or(2, 3), or(2)}), []int{3, 3}},
		{book(2, []int{open, or(0, 1)}, []int{or(2, 3), or(2)}, row(3, 3)), nil},
		{book(2, []int{open, or(0, 1)}, []int{or(3), or(2, 3)}), []int{2, 2}},
		// From another place on it is somebody's.
		{book(3, row(0, 0, 0), row(1, 0, 0), row(0, 2, 0)), []int{0, 0, 3}},
		{book(3, row(0, 0, 0), row(1, 0, 0), row(0, 2, 0), row(0, 0, 3)), []int{0, 1, 1}},
		{book(3, row(0, 0, 0), row(1, 0, 0), row(0, 2, 0), row(3, 0, 0), row(1, 1, 0), row(0, 1, 2)), []int{0, 1, 3}},
		{book(3, row(0, 0, 0), row(1, 0, 0), row(0, 2, 0), row(3, 0, 0), row(1, 1, 0), row(1, 0, 2)), []int{0, 1, 2}},
		// The most places.
		{book(8, all(1, 8)), []int{0, 0, 0, 0, 0, 0, 0, 1}},
		{book(8, all(2, 8)), []int{0, 0, 0, 0, 0, 0, 0, 0}},
		{book(8, all(7, 8)), []int{0, 0, 0, 0, 0, 0, 0, 3}},
		{book(8, all(14, 8)), []int{0, 0, 0, 0, 0, 0, 0, 0}},
		{book(8, slices.Repeat([][]int{all(open, 8)}, 6)...), nil},
		{book(8, append(all(open, 7), or(0, 1, 2)), append(all(open, 7), or(0, 1))), []int{3, 3, 3, 3, 3, 3, 3, 3}},
		{book(8, append(all(open, 7), or(0, 1, 2)), all(8, 8)), nil},
	} {
		wanted := api.OK
		if x.want == nil {
			wanted = api.ErrNone
		}
		if l, e := dapple.New(x.b); !slices.Equal(l, x.want) || e != wanted {
			t.Errorf("New %d: %v, %d", i, l, e)
		}
	}
}

// P7.6: Drop.
func TestDrop(t *testing.T) {
	one := func(sets ...int) api.DappleBook {
		b := book(1)
		for _, set := range sets {
			b.Horses = append(b.Horses, []int{set})
		}
		return b
	}
	for i, x := range []struct {
		b    api.DappleBook
		want []int
	}{
		{example(), []int{0, 1}},
		{example(worn), []int{0, 1, 4}},
		{example(horse(1, row(2, 1, 0, 0)...)), []int{0}},
		{example(horse(2, row(2, 1, 0, 0)...)), []int{0}},
		{example(horse(0, row(2, 1, 0, 0)...)), []int{1}},
		{example(horse(2, row(3, 3, 3, 3)...)), []int{0, 2}},
		// A horse alone, and such as cannot be the same.
		{one(open), nil},
		{one(1), nil},
		{one(1, 2, 4, 8), nil},
		{one(3, 12), nil},
		// The first one of several lists.
		{one(1, 1), []int{0}},
		{one(3, 6), []int{0}},
		{one(1, 1, 1), []int{0, 1}},
		{one(1, 1, 1, 1, 1, 1), []int{0, 1, 2, 3, 4}},
		{one(open, open, open, open, open, open), []int{0, 1, 2, 3, 4}},
		{one(1, 1, 2, 2, 4, 4), []int{0, 2, 4}},
		{one(1, 2, 4, 4, 2, 1), []int{0, 1, 2}},
		{one(2, 1, 4, 4, 8, 8), []int{2, 4}},
		// The fewest, even if a longer list comes before it.
		{one(1, 3, 2), []int{1}},
		{one(1, 2, 3), []int{2}},
		{one(1, 2, 4, 8, open), []int{4}},
		{one(1, 2, 4, 8, 3, 12), []int{4, 5}},
		{one(1, 3, 6, 12, 8), []int{1, 3}},
		{one(1, 3, 6, 12), []int{0, 2}},
		{one(3, 6, 12), []int{1}},
		{one(3, 6, 12, 9), []int{0, 2}},
		{one(1, 2, 4, 7, 7, 8), []int{3, 4}},
		{one(1, 2, 4, 7, 7, 7), []int{3, 4, 5}},
		{one(1, 1, 7, 7, 2, 4), []int{0, 2, 3}},
		// Several places.
		{book(3, row(0, 1, 2), row(2, 0, 1), row(1, 2, 0), row(2, 1, 0)), []int{0, 1}},
		{book(3, row(0, 1, 2), row(2, 0, 3), row(1, 2, 0), row(2, 1, 0)), []int{0}},
		{book(8, row(0, 1, 2, 3, 3, 2, 1, 1), all(1, 8), row(1, 1, 0, 1, 2, 3, 3, 2), all(open, 8)), []int{0, 3}},
	} {
		if l, e := dapple.Drop(x.b); !slices.Equal(l, x.want) || e != api.OK {
			t.Errorf("Drop %d: %v, %d", i, l, e)
		}
	}
}

// P7.7: Look. No dapple is none at all.
func TestLook(t *testing.T) {
	none := []int(nil)
	for i, x := range []struct {
		b    api.DappleBook
		want []int
	}{
		{example(), []int{2, 0}},
		{example(worn), []int{4, 0}},
		{example(horse(2, row(0, 2, 0, 1)...)), none},
		{book(1, row(2)), none},
		{book(8, all(1, 8), all(1, 8), all(8, 8)), none},
		// One that is not known, whichever it is, and of whatever sizes.
		{book(1, []int{open}), []int{0, 0}},
		{book(3, row(0, 1, 2), []int{or(3), or(3), or(1, 2)}), []int{1, 2}},
		{book(3, row(0, 1, 2), row(0, 1, 2), []int{or(3), or(0, 3), or(1)}), []int{2, 1}},
		{book(8, slices.Concat(all(1, 7), []int{12})), []int{0, 7}},
		{book(8, all(1, 8), all(1, 8), all(1, 8), all(1, 8), all(1, 8), slices.Concat(all(1, 7), []int{3})), []int{5, 7}},
		// All are as good: the first horse, and there the first place.
		{book(8, slices.Repeat([][]int{all(open, 8)}, 6)...), []int{0, 0}},
		{book(2, row(0, 0), []int{or(1, 2), or(1, 2)}, []int{or(3), or(1, 3)}), []int{1, 0}},
		{book(2, row(0, 0), []int{or(1), or(1, 2)}, []int{or(1, 3), or(3)}), []int{1, 1}},
		{book(2, row(3, 3), row(0, 0), []int{or(1, 0), or(0)}, []int{or(1), or(1, 2)}), []int{2, 0}},
		// A later horse is better, or a later place.
		{book(1, []int{or(0, 1)}, []int{or(1, 2)}, []int{or(2, 3)}), []int{1, 0}},
		{book(1, row(0), []int{or(0, 1)}, row(1), []int{or(2, 3)}), []int{1, 0}},
		{book(1, row(2), []int{or(2, 3)}, row(1), []int{or(0, 1)}, row(0)), []int{3, 0}},
		{book(2, row(0, 3), row(1, 3), []int{or(0, 1), or(3)}, []int{or(2), or(0, 1)}), []int{2, 0}},
		{book(2, row(0, 3), row(1, 3), []int{or(2), or(0, 1)}, []int{or(0, 1), or(3)}), []int{3, 0}},
		{book(2, row(0, 2), row(0, 3), []int{or(0, 1), or(2, 3)}), []int{2, 1}},
		{book(2, row(0, 2), row(1, 2), []int{or(0, 1), or(2, 3)}), []int{2, 0}},
		{book(2, row(2, 0), row(3, 0), []int{or(0, 1), or(2, 3)}), []int{2, 1}},
		{book(4, row(0, 0, 0, 1), row(0, 0, 0, 2), row(0, 0, 0, 3), []int{or(0, 1), or(0, 1), or(0, 1), or(1, 2, 3)}), []int{3, 3}},
		// What it is at the worst decides, neither what it is at the best, nor how many sizes are good.
		{book(1, []int{or(0, 1)}, row(0), row(0), []int{or(2, 3)}, row(2), row(3)), []int{3, 0}},
		{book(1, []int{or(2, 3)}, row(2), row(3), []int{or(0, 1)}, row(0), row(0)), []int{0, 0}},
		{book(2, []int{open, or(2)}, row(0, 3), row(0, 2), row(0, 2), []int{or(1), or(0, 1)}, row(1, 0)), []int{0, 0}},
		{book(1, []int{or(0, 1, 2, 3)}, row(0), row(0), []int{or(1, 2)}, row(2)), []int{0, 0}},
		{book(1, []int{or(1, 2)}, row(2), []int{or(0, 1, 2, 3)}, row(0), row(0)), []int{2, 0}},
		// Two horses can be the same by one place alone.
		{book(2, []int{or(0, 1), or(2, 3)}, []int{or(0, 2), or(2)}, row(1, 3)), []int{0, 0}},
	} {
		n, m, e := dapple.Look(x.b)
		wantPair(t, "Look", i, x.want, n, m, e)
	}
}

// spare returns a book with room behind its lists, into which nothing may be written.
func spare(b api.DappleBook) api.DappleBook {
	b = clone(b)
	for i, sets := range b.Horses {
		b.Horses[i] = append(sets, 77)[:len(sets)]
	}
	b.Horses = append(b.Horses, all(77, 3))[:len(b.Horses)]
	return b
}

// isSpare reports whether what lies behind the lists of a book still does.
func isSpare(b api.DappleBook) bool {
	for _, sets := range b.Horses {
		if n := len(sets); sets[:n+1][n] != 77 {
			return false
		}
	}
	n := len(b.Horses)
	return slices.Equal(b.Horses[:n+1][n], all(77, 3))
}

// P7.8, P2, R4: arguments are not changed, results are new memory, and the same arguments have the same results.
func TestMemory(t *testing.T) {
	for i, b := range append(limits(), example(), example(worn), book(2, row(0, 1), all(open, 2), row(1, 0), row(2, 2))) {
		b = spare(b)
		before := clone(b)
		for _, asked := range [][]int{all(0, b.Round), all(3, b.Round), {2, 0, 1, 0}, nil} {
			q := question{one: 0, other: len(b.Horses) - 1, row: append(slices.Clone(asked), 77)[:len(asked)]}
			first, kept := ask(b, q), ask(clone(b), question{one: q.one, other: q.other, row: slices.Clone(asked)})
			if !reflect.DeepEqual(first, kept) {
				t.Errorf("the book %d: %v, then %v", i, kept, first)
			}
			results := [][]int{first.turns, first.whose, first.free, first.drops}
			for k, l := range results {
				for m := range l {
					l[m] = 90 + k
				}
				_ = append(l, 99)
			}
			for k, l := range results {
				if slices.ContainsFunc(l, func(n int) bool { return n != 90+k }) {
					t.Errorf("the book %d: results share memory: %v", i, results)
				}
			}
			if second := ask(b, q); !reflect.DeepEqual(second, kept) {
				t.Errorf("the book %d: %v, then %v", i, kept, second)
			}
			if !slices.Equal(q.row, asked) || q.row[:len(asked)+1][len(asked)] != 77 {
				t.Errorf("the row %v was changed to %v", asked, q.row)
			}
		}
		if !reflect.DeepEqual(b, before) || !isSpare(b) {
			t.Errorf("%v was changed to %v", before, b)
		}
	}
}

// P7.8: what is done to an argument later does not change a result.
func TestNothingIsRetained(t *testing.T) {
	for _, change := range []change{func(*api.DappleBook) {}, worn} {
		b, q := example(change), question{one: 0, other: 1, row: []int{2, 0, 1, 0}}
		first, kept := ask(b, q), ask(example(change), question{one: 0, other: 1, row: []int{2, 0, 1, 0}})
		for _, sets := range b.Horses {
			clear(sets)
		}
		q.row[0] = 0
		if !reflect.DeepEqual(first, kept) {
			t.Errorf("%v became %v", kept, first)
		}
		wantErrors(t, "the cleared book", ask(b, q), api.ErrDapple)
		if second := ask(example(change), question{one: 0, other: 1, row: []int{2, 0, 1, 0}}); !reflect.DeepEqual(second, kept) {
			t.Errorf("%v, then %v", kept, second)
		}
	}
}

// R3: there is no difference between a nil list and an empty one.
func TestEmptyLists(t *testing.T) {
	for _, c := range [][2]change{
		{horses(), horses([][]int{}...)},
		{func(b *api.DappleBook) { b.Horses = nil }, func(b *api.DappleBook) { b.Horses = [][]int{} }},
		{horse(1), func(b *api.DappleBook) { b.Horses[1] = []int{} }},
	} {
		first := ask(example(c[0]), question{other: 1})
		second := ask(example(c[1]), question{other: 1, row: []int{}})
		if !reflect.DeepEqual(first, second) {
			t.Errorf("with nil %v, with an empty list %v", first, second)
		}
		wantErrors(t, "an empty list", second, api.ErrDapple)
	}
	for _, asked := range [][]int{nil, {}} {
		if l, e := dapple.Whose(example(), asked); len(l) != 0 || e != api.ErrDappleAsk {
			t.Errorf("Whose %v: %v, %d", asked, l, e)
		}
	}
}
