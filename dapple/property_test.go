package dapple_test

import (
	"math/rand/v2"
	"slices"
	"testing"

	"skewbald/api"
	"skewbald/dapple"
)

// eachPair calls a function with each two horses of a book, in both orders.
func eachPair(b api.DappleBook, call func(one, other int)) {
	for one := range b.Horses {
		for other := range b.Horses {
			if one != other {
				call(one, other)
			}
		}
	}
}

// turnsOf and sameOf return what Turns and Same do, without an error.
func turnsOf(t *testing.T, b api.DappleBook, one, other int) []int {
	t.Helper()
	l, e := dapple.Turns(b, one, other)
	if e != api.OK {
		t.Errorf("Turns %v, %d, %d: %d", b, one, other, e)
	}
	return l
}

func sameOf(t *testing.T, b api.DappleBook, one, other int) int {
	t.Helper()
	n, e := dapple.Same(b, one, other)
	if e != api.OK {
		t.Errorf("Same %v, %d, %d: %d", b, one, other, e)
	}
	return n
}

// enough checks that each of some cases was reached so often.
func enough(t *testing.T, counts map[string]int, least int, names ...string) {
	t.Helper()
	for _, name := range names {
		if counts[name] < least {
			t.Errorf("%s: %d times", name, counts[name])
		}
	}
}

// P7.1, P7.2: the reference finds the same.
func TestPairsLikeTheReference(t *testing.T) {
	counts := map[string]int{}
	for _, b := range books(71, 500, 5, 64) {
		eachPair(b, func(one, other int) {
			want := turns(b, one, other)
			if l := turnsOf(t, b, one, other); !slices.Equal(l, want) {
				t.Errorf("Turns %v, %d, %d: %v, want %v", b, one, other, l, want)
			}
			is := same(b, one, other)
			if n := sameOf(t, b, one, other); n != is {
				t.Errorf("Same %v, %d, %d: %d, want %d", b, one, other, n, is)
			}
			counts[[]string{"never", "perhaps", "surely"}[is]]++
			if len(want) > 1 {
				counts["several turns"]++
			}
			if len(want) > 0 && !slices.Equal(want, turns(b, other, one)) {
				counts["other turns back"]++
			}
			if len(want) == b.Round && is == 1 {
				counts["all turns, but perhaps"]++
			}
		})
	}
	enough(t, counts, 200, "never", "perhaps", "surely", "several turns", "other turns back", "all turns, but perhaps")
}

// P7.3: the reference finds the same.
func TestFirstPairsLikeTheReference(t *testing.T) {
	counts := map[string]int{}
	for i, b := range books(72, 1500, 5, 32) {
		can, are := pairs(b, 1), pairs(b, 2)
		for k, l := range [][][]int{can, are} {
			var want []int
			if len(l) > 0 {
				want = l[0]
				counts["some"]++
				if want[0] > 0 {
					counts["not of the first horse"]++
				}
			} else {
				counts["none"]++
			}
			n, m, e := dapple.Clash(b)
			if k == 1 {
				n, m, e = dapple.Sure(b)
			}
			wantPair(t, []string{"Clash", "Sure"}[k], i, want, n, m, e)
		}
		if len(are) > 0 && !slices.Equal(can[0], are[0]) {
			counts["another one surely"]++
		}
	}
	enough(t, counts, 30, "none", "some", "not of the first horse", "another one surely")
}

// P7.4: the reference finds the same.
func TestWhoseLikeTheReference(t *testing.T) {
	r := rand.New(rand.NewPCG(73, 9))
	counts := map[int]int{}
	for _, b := range books(73, 900, 5, 64) {
		asked := append(anyTruth(r, b), anyTruth(r, book(b.Round, all(open, b.Round)))...)
		for _, row := range asked {
			row = turned(row, r.IntN(b.Round))
			want := whose(b, row)
			counts[len(want)]++
			if l, e := dapple.Whose(b, row); !slices.Equal(l, want) || e != api.OK {
				t.Errorf("Whose %v, %v: %v, %d, want %v", b, row, l, e, want)
			}
		}
	}
	for n := range api.DappleHorses + 1 {
		if counts[n] < 30 {
			t.Errorf("%d times a row was that of %d horses", counts[n], n)
		}
	}
}

// fullBooks returns valid books of few places, most of whose rows are somebody's, always the same ones.
func fullBooks(seed uint64, many int) []api.DappleBook {
	r := rand.New(rand.NewPCG(seed, 10))
	var books []api.DappleBook
	for range many {
		b := book(1 + r.IntN(3))
		for range 1 + r.IntN(api.DappleHorses) {
			var sets []int
			for range b.Round {
				sets = append(sets, (1+r.IntN(open))|(1+r.IntN(open)))
			}
			b.Horses = append(b.Horses, sets)
		}
		books = append(books, b)
	}
	return books
}

// P7.5: the reference finds the same.
func TestNewLikeTheReference(t *testing.T) {
	counts := map[string]int{}
	for _, b := range append(books(74, 300, 4, 64), fullBooks(74, 700)...) {
		want, wanted := free(b), api.OK
		switch {
		case want == nil:
			wanted = api.ErrNone
			counts["none"]++
		case slices.Max(want) == 0:
			counts["nothing at all"]++
		default:
			counts["some"]++
			if b.Round > 1 && want[0] > 0 {
				counts["a late one"]++
			}
		}
		if l, e := dapple.New(b); !slices.Equal(l, want) || e != wanted {
			t.Errorf("New %v: %v, %d, want %v", b, l, e, want)
		}
	}
	enough(t, counts, 30, "none", "nothing at all", "some", "a late one")
}

// P7.6: the reference finds the same.
func TestDropLikeTheReference(t *testing.T) {
	many, later := map[int]int{}, 0
	for _, b := range append(books(75, 500, 5, 32), fullBooks(75, 150)...) {
		want := drop(b)
		many[len(want)]++
		if len(want) > 0 && want[0] > 0 {
			later++
		}
		if l, e := dapple.Drop(b); !slices.Equal(l, want) || e != api.OK {
			t.Errorf("Drop %v: %v, %d, want %v", b, l, e, want)
		}
	}
	for n := range api.DappleHorses {
		if many[n] < 20 {
			t.Errorf("%d times %d horses were to be painted anew", many[n], n)
		}
	}
	if later < 30 {
		t.Errorf("%d times the first horse was not", later)
	}
}

// P7.7: the reference finds the same.
func TestLookLikeTheReference(t *testing.T) {
	counts := map[string]int{}
	for i, b := range books(76, 1200, 4, 16) {
		want := look(b)
		places, worst := dapples(b)
		switch {
		case want == nil:
			counts["none"]++
		case slices.Equal(want, places[0]):
			counts["the first one"]++
		default:
			counts["a later one"]++
			if want[1] > slices.IndexFunc(b.Horses[want[0]], func(set int) bool { return len(sizes(set)) > 1 }) {
				counts["a later place of a horse"]++
			}
		}
		if want != nil && !slices.Equal(want, byRule(places, worst, slices.Min[[]int])) {
			counts["not the one that is best at the best"]++
		}
		n, m, e := dapple.Look(b)
		wantPair(t, "Look", i, want, n, m, e)
	}
	enough(t, counts, 30, "none", "the first one", "a later one", "a later place of a horse", "not the one that is best at the best")
}

// byRule returns the first place of which a number of its counts is the least.
func byRule(places, counts [][]int, number func([]int) int) []int {
	best := 0
	for i := range places {
		if number(counts[i]) < number(counts[best]) {
			best = i
		}
	}
	return places[best]
}

// P7.9: NO TWO ARE THE SAME: whatever the rows truly are, two that are told to be the same are, and two that are told not to be are not; whoever has a row is among those that are told; nobody has the new row.
func TestNoTwoAreTheSame(t *testing.T) {
	r := rand.New(rand.NewPCG(77, 9))
	counts := map[string]int{}
	for _, b := range append(books(77, 100, 4, 1<<16), wideBooks(77, 200)...) {
		fresh, e := dapple.New(b)
		if e == api.OK {
			counts["a new row"]++
		}
		n, m, clash := dapple.Clash(b)
		k, l, sure := dapple.Sure(b)
		for range 20 {
			truly := anyTruth(r, b)
			wantTold(t, b, truly, counts)
			for horse, row := range truly {
				if e == api.OK && isSameInATurn(row, fresh) {
					t.Errorf("New %v: %v, but %d has it in %v", b, fresh, horse, truly)
				}
				if l, f := dapple.Whose(b, turned(row, r.IntN(b.Round))); f != api.OK || !slices.Contains(l, horse) {
					t.Errorf("Whose %v: %v, %d, but %d has it in %v", b, l, f, horse, truly)
				}
			}
			for one := range truly {
				for other := one + 1; other < len(truly); other++ {
					are := isSameInATurn(truly[one], truly[other])
					if are && (clash != api.OK || slices.Compare([]int{one, other}, []int{n, m}) < 0) {
						t.Errorf("Clash %v: %d, %d, %d, but %d and %d are the same in %v", b, n, m, clash, one, other, truly)
					}
				}
			}
			if sure == api.OK && !isSameInATurn(truly[k], truly[l]) {
				t.Errorf("Sure %v: %d, %d, but not in %v", b, k, l, truly)
			}
		}
	}
	enough(t, counts, 200, "the same surely", "the same perhaps", "not the same perhaps", "not the same surely", "a new row")
}

// wantTold checks that what is told of each two horses is so in a truth.
func wantTold(t *testing.T, b api.DappleBook, truly [][]int, counts map[string]int) {
	t.Helper()
	eachPair(b, func(one, other int) {
		told, n := turnsOf(t, b, one, other), sameOf(t, b, one, other)
		are := isSameInATurn(truly[one], truly[other])
		if n == 2 && !are || n == 0 && are {
			t.Errorf("Same %v, %d, %d: %d, but %v in %v", b, one, other, n, are, truly)
		}
		for turn := range b.Round {
			if isSame(truly[one], truly[other], turn) && !slices.Contains(told, turn) {
				t.Errorf("Turns %v, %d, %d: %v, but %d in %v", b, one, other, told, turn, truly)
			}
		}
		name := "not the same"
		if are {
			name = "the same"
		}
		if n == 1 {
			counts[name+" perhaps"]++
		} else {
			counts[name+" surely"]++
		}
	})
}

// P7.10: in each turn that is told the two can be the same: there are sizes with which they are; in the turn back the other one can be the same as the first one, and in no more of them.
func TestTheTurnsBack(t *testing.T) {
	told, back := 0, 0
	for _, b := range append(books(78, 100, 5, 1<<16), wideBooks(78, 300)...) {
		eachPair(b, func(one, other int) {
			l := turnsOf(t, b, one, other)
			if !slices.IsSorted(l) {
				t.Errorf("Turns %v, %d, %d: %v", b, one, other, l)
			}
			var want []int
			for _, turn := range l {
				told++
				if turn < 0 || turn >= b.Round {
					t.Errorf("Turns %v, %d, %d: %v", b, one, other, l)
					continue
				}
				want = append(want, (b.Round-turn)%b.Round)
				wantSameOnce(t, b, one, other, turn)
			}
			slices.Sort(want)
			if k := turnsOf(t, b, other, one); !slices.Equal(k, want) {
				t.Errorf("Turns %v, %d, %d: %v, back %v", b, one, other, l, k)
			} else if !slices.Equal(k, l) {
				back++
			}
		})
	}
	if min(told, back) < 300 {
		t.Errorf("%d turns, %d times other ones back", told, back)
	}
}

// wantSameOnce checks that once the sizes are known that two horses have in common in a turn they surely are the same, in this one.
func wantSameOnce(t *testing.T, b api.DappleBook, one, other, turn int) {
	t.Helper()
	c := clone(b)
	for place := range b.Round {
		from := (place + turn) % b.Round
		common := sizes(b.Horses[one][from] & b.Horses[other][place])
		if len(common) == 0 {
			t.Errorf("Turns %v, %d, %d: %d, but not at %d", b, one, other, turn, place)
			return
		}
		c.Horses[one][from], c.Horses[other][place] = or(common[0]), or(common[0])
	}
	if sameOf(t, c, one, other) != 2 || !slices.Contains(turnsOf(t, c, one, other), turn) {
		t.Errorf("Turns %v, %d, %d: %d, but not in %v", b, one, other, turn, c)
	}
}

// noClash reports whether no two horses can be the same. A book without horses is not valid, but then there are no two.
func noClash(b api.DappleBook) bool {
	_, _, e := dapple.Clash(b)
	return e == api.ErrNone || len(b.Horses) == 0
}

// P7.11, P7.6: without those that are told no two can be the same; without fewer, or those before them, some can.
func TestTheHorsesThatArePaintedAnew(t *testing.T) {
	many := map[int]int{}
	for _, b := range append(fullBooks(79, 100), wideBooks(79, 400)...) {
		l, e := dapple.Drop(b)
		if e != api.OK || !noClash(without(b, l)) {
			t.Errorf("Drop %v: %v, %d, but two others can be the same", b, l, e)
		}
		many[len(l)]++
		for _, list := range sublists(len(b.Horses)) {
			if slices.Equal(list, l) {
				break
			}
			if noClash(without(b, list)) {
				t.Errorf("Drop %v: %v, but without %v no two can be the same", b, l, list)
			}
		}
	}
	for n := range api.DappleHorses {
		if many[n] < 15 {
			t.Errorf("%d times %d horses were painted anew", many[n], n)
		}
	}
}

// P7.12: if more is known of a dapple no two can be the same that could not be before, nor in other turns; who could not have a row still cannot; two that surely are the same stay so, and have no dapple that is not known.
func TestMoreIsKnown(t *testing.T) {
	r := rand.New(rand.NewPCG(80, 9))
	counts := map[string]int{}
	for _, b := range append(books(80, 200, 5, 1<<16), wideBooks(80, 200)...) {
		c := knowingMore(r, b)
		eachPair(b, func(one, other int) {
			before, after := sameOf(t, b, one, other), sameOf(t, c, one, other)
			if before == 0 && after != 0 || before == 2 && after != 2 {
				t.Errorf("Same %v, %d, %d: %d, but of %v %d", b, one, other, before, c, after)
			}
			if before == 1 {
				counts[[]string{"perhaps, then never", "perhaps still", "perhaps, then surely"}[after]]++
			} else {
				counts["known before"]++
			}
			told := turnsOf(t, b, one, other)
			for _, turn := range turnsOf(t, c, one, other) {
				if !slices.Contains(told, turn) {
					t.Errorf("Turns %v, %d, %d: %v, but of %v %d", b, one, other, told, c, turn)
				}
			}
			open := func(set int) bool { return len(sizes(set)) > 1 }
			if before == 2 && (slices.ContainsFunc(b.Horses[one], open) || slices.ContainsFunc(b.Horses[other], open)) {
				t.Errorf("Same %v, %d, %d: %d", b, one, other, before)
			}
		})
		row := anyTruth(r, b)[0]
		before, _ := dapple.Whose(b, row)
		after, _ := dapple.Whose(c, row)
		for _, horse := range after {
			if !slices.Contains(before, horse) {
				t.Errorf("Whose %v, %v: %v, but of %v %v", b, row, before, c, after)
			}
		}
	}
	enough(t, counts, 15, "perhaps, then never", "perhaps still", "perhaps, then surely", "known before")
}

// knowingMore returns the book in which a dapple that is not known, if there is one, has fewer sizes.
func knowingMore(r *rand.Rand, b api.DappleBook) api.DappleBook {
	places := openPlaces(b)
	if len(places) == 0 {
		return b
	}
	p := places[r.IntN(len(places))]
	return changed(b, func(b *api.DappleBook) {
		l := sizes(b.Horses[p[0]][p[1]])
		r.Shuffle(len(l), func(i, k int) { l[i], l[k] = l[k], l[i] })
		b.Horses[p[0]][p[1]] = or(l[:1+r.IntN(len(l)-1)]...)
	})
}

// P7.7: once the dapple is known that is looked at, no more pairs can be the same than once another one is, at the worst; and in none of the dapples before it as few.
func TestTheDappleThatIsLookedAt(t *testing.T) {
	some, none := 0, 0
	for _, b := range append(fullBooks(82, 100), wideBooks(82, 100)...) {
		horse, place, e := dapple.Look(b)
		places := openPlaces(b)
		if len(places) == 0 {
			none++
			if horse != 0 || place != 0 || e != api.ErrNone {
				t.Errorf("Look %v: %d, %d, %d", b, horse, place, e)
			}
			continue
		}
		some++
		var worst []int
		for _, p := range places {
			worst = append(worst, worstOf(t, b, p[0], p[1]))
		}
		want := places[slices.Index(worst, slices.Min(worst))]
		if horse != want[0] || place != want[1] || e != api.OK {
			t.Errorf("Look %v: %d, %d, %d, want %v", b, horse, place, e, want)
		}
	}
	if some < 100 || none < 15 {
		t.Errorf("%d times some dapple was not known, %d times all were", some, none)
	}
}

// worstOf returns how many pairs can be the same once a dapple is known, at the worst.
func worstOf(t *testing.T, b api.DappleBook, horse, place int) int {
	t.Helper()
	most := 0
	for _, size := range sizes(b.Horses[horse][place]) {
		c, sum := knowing(b, horse, place, size), 0
		eachPair(c, func(one, other int) {
			if one < other && sameOf(t, c, one, other) > 0 {
				sum++
			}
		})
		most = max(most, sum)
	}
	return most
}

// P7.13: where one begins to read a horse changes nothing of what is told of pairs, but by how much their turns go on.
func TestWhereOneBeginsToRead(t *testing.T) {
	r := rand.New(rand.NewPCG(81, 9))
	counts := map[string]int{}
	for i, b := range append(books(81, 150, 5, 1<<16), wideBooks(81, 200)...) {
		horse, by := r.IntN(len(b.Horses)), r.IntN(b.Round)
		c := changed(b, func(b *api.DappleBook) { b.Horses[horse] = turned(b.Horses[horse], by) })
		row := anyTruth(r, b)[horse]
		q, read := question{row: row}, question{row: turned(row, r.IntN(b.Round))}
		first, second := ask(b, q), ask(c, read)
		if first.clash != second.clash || first.sure != second.sure || first.look[0] != second.look[0] {
			t.Errorf("the book %d: %v, from another place %v", i, first, second)
		}
		if !slices.Equal(first.drops, second.drops) || !slices.Equal(first.whose, second.whose) || !slices.Equal(first.free, second.free) || first.errors != second.errors {
			t.Errorf("the book %d: %v, from another place %v", i, first, second)
		}
		eachPair(b, func(one, other int) {
			n := sameOf(t, b, one, other)
			if m := sameOf(t, c, one, other); m != n {
				t.Errorf("Same %v, %d, %d: %d, of %v %d", b, one, other, n, c, m)
			}
			counts[[]string{"never", "perhaps", "surely"}[n]]++
			on := 0
			if horse == one {
				on = b.Round - by
			} else if horse == other {
				on = by
			}
			var want []int
			for _, turn := range turnsOf(t, b, one, other) {
				want = append(want, (turn+on)%b.Round)
			}
			slices.Sort(want)
			if l := turnsOf(t, c, one, other); !slices.Equal(l, want) {
				t.Errorf("Turns %v, %d, %d: %v, of %v, in which %d is read from %d on, want %v", c, one, other, l, b, horse, by, want)
			}
		})
	}
	enough(t, counts, 100, "never", "perhaps", "surely")
}
