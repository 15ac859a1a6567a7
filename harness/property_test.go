package harness_test

import (
	"math/rand/v2"
	"reflect"
	"slices"
	"strconv"
	"testing"

	"skewbald/api"
	"skewbald/harness"
)

// enough checks that each of some cases was met often enough for a test to tell something.
func enough(t *testing.T, counts map[string]int, least int, cases ...string) {
	t.Helper()
	for _, c := range cases {
		if counts[c] < least {
			t.Errorf("%s: %d times", c, counts[c])
		}
	}
}

// P10.1, P10.2, P10.6, P10.7: the reference finds the same.
func TestDaysLikeTheReference(t *testing.T) {
	counts := map[string]int{}
	for i, b := range append(books(201, 800), limits()...) {
		k := know(b, byNumber(b))
		x := dayCase{b, k.sure(), k.perhaps(), k.many(), count(b), queue(b)}
		wantDay(t, i, x)
		counts[strconv.Itoa(len(x.sure))+" are sure"]++
		counts[strconv.Itoa(len(x.perhaps)-len(x.sure))+" are unsure"]++
		counts["by counting "+strconv.Itoa(x.count)]++
		if len(bald(b)) > 0 && len(dressed(b)) > 0 {
			counts["some have no hair"]++
		}
		if len(bald(b)) == len(b.Needs) {
			counts["nobody has hair"]++
		}
		if x.many.Low > len(x.sure) {
			counts["more are served than surely"]++
		}
		if x.many.High < len(x.perhaps) {
			counts["fewer are served than perhaps"]++
		}
		if !slices.IsSorted(x.queue) {
			counts["another order"]++
		}
	}
	enough(t, counts, 20, "0 are sure", "1 are sure", "2 are sure", "3 are sure", "0 are unsure", "1 are unsure", "2 are unsure", "by counting -1", "by counting 0", "by counting 1", "by counting 2", "some have no hair", "nobody has hair", "more are served than surely", "fewer are served than perhaps", "another order")
	enough(t, counts, 5, "3 are unsure")
}

// P10.3, P10.4, P10.5: the reference finds the same.
func TestPacksLikeTheReference(t *testing.T) {
	counts := map[string]int{}
	for i, b := range append(books(202, 500), limits()...) {
		x := packCase{b: b}
		for kind := range b.Stock {
			x.order = append(x.order, packs(b, kind))
			x.lacking, x.over = append(x.lacking, lacking(b, kind)), append(x.over, over(b, kind))
			counts[strconv.Itoa(min(3, x.order[kind]))+" packs"]++
			switch {
			case x.lacking[kind].High == 0:
				counts["none lacks"]++
			case x.lacking[kind].Low == 0:
				counts["perhaps none lacks"]++
			default:
				counts["some lack"]++
			}
			if x.over[kind].Low == 0 && x.order[kind] > 0 {
				counts["just enough"]++
			}
		}
		wantPacks(t, i, x)
	}
	enough(t, counts, 30, "0 packs", "1 packs", "2 packs", "3 packs", "none lacks", "perhaps none lacks", "some lack", "just enough")
}

// sure, perhaps, many, queued, ordered and left are what the functions Sure, Perhaps, Many, Queue, Order and Over tell, which have no error here.
func sure(b api.HarnessBook) []int {
	l, _ := harness.Sure(b)
	return l
}

func perhaps(b api.HarnessBook) []int {
	l, _ := harness.Perhaps(b)
	return l
}

func many(b api.HarnessBook) api.Span {
	s, _ := harness.Many(b)
	return s
}

func queued(b api.HarnessBook) []int {
	l, _ := harness.Queue(b)
	return l
}

func ordered(b api.HarnessBook) []int {
	l, _ := harness.Order(b)
	return l
}

func left(b api.HarnessBook, kind int) api.Span {
	s, _ := harness.Over(b, kind)
	return s
}

// isWithin reports whether all numbers of a list are in another one.
func isWithin(list, other []int) bool {
	return !slices.ContainsFunc(list, func(n int) bool { return !slices.Contains(other, n) })
}

// P10.9: however many pieces truly are at hand, who is told to be surely served is, and nobody is who perhaps is not, and as many are as lies between what is told.
func TestWhoSurelyIsServed(t *testing.T) {
	counts := map[string]int{}
	for _, b := range append(books(203, 400), limits()...) {
		l, m, s := sure(b), perhaps(b), many(b)
		for _, truth := range truths(b) {
			truly := served(b, byNumber(b), truth)
			if !isWithin(l, truly) || !isWithin(truly, m) || len(truly) < s.Low || len(truly) > s.High {
				t.Errorf("%v: Sure %v, Perhaps %v, Many %v, but truly %v", b, l, m, s, truly)
			}
			if len(l) < len(truly) && len(truly) < len(m) {
				counts["some more than surely"]++
			}
		}
		if s.Low < s.High {
			counts["more or fewer"]++
		}
	}
	enough(t, counts, 50, "some more than surely", "more or fewer")
}

// come returns how many pieces of each kind there are in a truth, once some packs have come, each with as many bad pieces as is told for it.
func come(b api.HarnessBook, truth, packs []int, bad func() int) []int {
	all := slices.Clone(truth)
	for kind, n := range packs {
		for range n {
			all[kind] += b.Pack - bad()
		}
	}
	return all
}

// P10.10: once the packs have come, whatever is bad of them, all horses that have hair are served, and as much is left over as lies between what is told.
func TestWhatMustBeOrdered(t *testing.T) {
	r := rand.New(rand.NewPCG(204, 10))
	counts := map[string]int{}
	for _, b := range append(books(204, 300), limits()...) {
		packs := ordered(b)
		for _, truth := range truths(b) {
			for name, bad := range map[string]func() int{"none": func() int { return 0 }, "some": func() int { return r.IntN(b.Bad + 1) }, "all": func() int { return b.Bad }} {
				atHand := come(b, truth, packs, bad)
				if truly := served(b, byNumber(b), atHand); !slices.Equal(truly, dressed(b)) {
					t.Errorf("%v: Order %v, but with %v only %v are served", b, packs, atHand, truly)
				}
				for kind := range b.Stock {
					over, s := atHand[kind]-need(b, kind), left(b, kind)
					if over < s.Low || over > s.High {
						t.Errorf("%v: Over %d: %v, but truly %d", b, kind, s, over)
					}
					if packs[kind] > 0 && over > s.Low && over < s.High {
						counts[name+" are bad"]++
					}
				}
			}
		}
	}
	enough(t, counts, 100, "none are bad", "some are bad", "all are bad")
}

// P10.10: with a pack less of a kind not all of them are served, if the least is at hand, and all are bad that can be. What is told to be left over can be.
func TestWithAPackLess(t *testing.T) {
	counts := map[string]int{}
	for _, b := range append(books(205, 400), limits()...) {
		packs := ordered(b)
		var low, high []int
		for _, s := range b.Stock {
			low, high = append(low, s.Low), append(high, s.High)
		}
		allBad, noneBad := func() int { return b.Bad }, func() int { return 0 }
		fewest, most := come(b, low, packs, allBad), come(b, high, packs, noneBad)
		for kind, n := range packs {
			if s := left(b, kind); s != to(fewest[kind]-need(b, kind), most[kind]-need(b, kind)) {
				t.Errorf("%v: Over %d: %v, but %v, %v", b, kind, s, fewest, most)
			}
			if n == 0 {
				continue
			}
			less := slices.Clone(packs)
			less[kind]--
			if truly := served(b, byNumber(b), come(b, low, less, allBad)); slices.Equal(truly, dressed(b)) {
				t.Errorf("%v: Order %v, but %v are enough", b, packs, less)
			}
			counts["less"]++
		}
	}
	enough(t, counts, 100, "less")
}

// P10.9, P10.10: the package itself tells that all horses that have hair surely are served, and that no more must be ordered, once the packs have come, as far as a book can tell of so many pieces.
func TestOncePacksHaveCome(t *testing.T) {
	counts := map[string]int{}
	for _, b := range append(books(206, 400), limits()...) {
		packs := ordered(b)
		then := clone(b)
		for kind, n := range packs {
			s := b.Stock[kind]
			then.Stock[kind] = to(s.Low+n*(b.Pack-b.Bad), s.High+n*b.Pack)
		}
		if harness.Check(then) != api.OK {
			continue
		}
		if l, m := sure(then), ordered(then); !slices.Equal(l, dressed(b)) || slices.Max(m) > 0 {
			t.Errorf("%v: Order %v, then Sure %v, Order %v", b, packs, l, m)
		}
		for kind := range b.Stock {
			if s, e := harness.Lacking(then, kind); s != just(0) || e != api.OK || left(then, kind) != left(b, kind) {
				t.Errorf("%v: then Lacking %d: %v, %d, Over %v, before %v", b, kind, s, e, left(then, kind), left(b, kind))
			}
		}
		counts["come"] += slices.Max(packs)
	}
	enough(t, counts, 100, "come")
}

// P10.11: a horse without hair is never served, and takes nothing: whatever it needs, all others fare the same.
func TestAHorseWithoutHair(t *testing.T) {
	counts := map[string]int{}
	for _, b := range append(books(207, 600), limits()...) {
		first := ask(b, 0)
		for _, horse := range bald(b) {
			if slices.Contains(first.sure, horse) || slices.Contains(first.perhaps, horse) {
				t.Errorf("%v: Sure %v, Perhaps %v, but %d has no hair", b, first.sure, first.perhaps, horse)
			}
			for _, n := range []int{0, api.HarnessNeed} {
				c := changed(b, func(b *api.HarnessBook) { b.Needs[horse] = slices.Repeat([]int{n}, len(b.Stock)) })
				if then := ask(c, 0); !reflect.DeepEqual(then, first) {
					t.Errorf("%v: %v, but if the horse %d needs %d: %v", b, first, horse, n, then)
				}
				counts["changed"]++
			}
		}
	}
	enough(t, counts, 100, "changed")
}

// P10.11: the first horse that has hair is surely served just if what it needs is at hand at least; perhaps if it is at most.
func TestTheFirstHorse(t *testing.T) {
	counts := map[string]int{}
	for _, b := range append(books(208, 600), limits()...) {
		with := dressed(b)
		if len(with) == 0 {
			continue
		}
		atLeast, atMost := true, true
		for kind, n := range b.Needs[with[0]] {
			atLeast, atMost = atLeast && n <= b.Stock[kind].Low, atMost && n <= b.Stock[kind].High
		}
		if slices.Contains(sure(b), with[0]) != atLeast || slices.Contains(perhaps(b), with[0]) != atMost {
			t.Errorf("%v: Sure %v, Perhaps %v, of which the horse %d comes first", b, sure(b), perhaps(b), with[0])
		}
		counts[map[bool]string{true: "surely", false: "not surely"}[atLeast]]++
		counts[map[bool]string{true: "perhaps", false: "not perhaps"}[atMost]]++
		if with[0] > 0 {
			counts["not the horse 0"]++
		}
	}
	enough(t, counts, 50, "surely", "not surely", "perhaps", "not perhaps", "not the horse 0")
}

// P10.12: once a kind is counted nobody is perhaps served who was not before, and all who surely were still are.
func TestOnceAKindIsCounted(t *testing.T) {
	counts := map[string]int{}
	for _, b := range append(books(209, 300), limits()...) {
		for kind, s := range b.Stock {
			for _, n := range numbers(s) {
				c := changed(b, stock(kind, just(n)))
				if !isWithin(perhaps(c), perhaps(b)) || !isWithin(sure(b), sure(c)) {
					t.Errorf("%v: Sure %v, Perhaps %v, with %d of %d: %v, %v", b, sure(b), perhaps(b), n, kind, sure(c), perhaps(c))
				}
				if len(sure(c)) > len(sure(b)) {
					counts["more surely"]++
				}
				if len(perhaps(c)) < len(perhaps(b)) {
					counts["fewer perhaps"]++
				}
			}
		}
	}
	enough(t, counts, 100, "more surely", "fewer perhaps")
}

// P10.6, P10.12: with no other kind counted fewer are unsure at the worst, and with none before it as few.
func TestTheKindToCount(t *testing.T) {
	counts := map[string]int{}
	for _, b := range append(books(210, 600), limits()...) {
		n, e := harness.Count(b)
		if unsure := len(perhaps(b)) - len(sure(b)); (unsure == 0) != (e == api.ErrNone) {
			t.Errorf("%v: Count %d, %d, but %d are unsure", b, n, e, unsure)
		}
		if e != api.OK {
			continue
		}
		worst := unsureAtWorst(b, n)
		for kind := range b.Stock {
			other := unsureAtWorst(b, kind)
			if other < worst || other == worst && kind < n {
				t.Errorf("%v: Count %d, by which %d are unsure, but by %d %d", b, n, worst, kind, other)
			}
			counts[map[bool]string{true: "worse", false: "as good"}[other > worst]]++
		}
		if n > 0 {
			counts["not the kind 0"]++
		}
		if worst > 0 {
			counts["still unsure"]++
		}
	}
	enough(t, counts, 30, "worse", "as good", "not the kind 0", "still unsure")
}

// unsureAtWorst returns how many the package tells to be perhaps, but not surely, served if a kind is counted, at the worst.
func unsureAtWorst(b api.HarnessBook, kind int) int {
	worst := 0
	for _, n := range numbers(b.Stock[kind]) {
		c := changed(b, stock(kind, just(n)))
		worst = max(worst, len(perhaps(c))-len(sure(c)))
	}
	return worst
}

// P10.13: in no other order more horses surely are served, and in none before it as many.
func TestTheQueue(t *testing.T) {
	counts := map[string]int{}
	for _, b := range append(books(211, 400), limits()...) {
		best := queued(b)
		if l := slices.Sorted(slices.Values(best)); !slices.Equal(l, byNumber(b)) {
			t.Errorf("%v: Queue %v", b, best)
		}
		most := len(know(b, best).sure())
		for _, order := range orders(byNumber(b)) {
			n := len(know(b, order).sure())
			if n > most || n == most && slices.Compare(order, best) < 0 {
				t.Errorf("%v: Queue %v, by which %d surely are served, but by %v %d", b, best, most, order, n)
			}
			counts[map[bool]string{true: "fewer", false: "as many"}[n < most]]++
		}
	}
	enough(t, counts, 100, "fewer", "as many")
}

// P10.7, P10.13: of horses that all have hair, and that are numbered as Queue tells, the package finds that as many surely are served, and that no order is better than by numbers.
func TestTheQueueByNumbers(t *testing.T) {
	counts := map[string]int{}
	for _, b := range append(books(212, 600), limits()...) {
		if len(bald(b)) > 0 {
			continue
		}
		best := queued(b)
		c := clone(b)
		for place, horse := range best {
			c.Hair.Horses[place], c.Needs[place] = b.Hair.Horses[horse], slices.Clone(b.Needs[horse])
		}
		if n := len(know(b, best).sure()); len(sure(c)) != n || !slices.Equal(queued(c), byNumber(c)) {
			t.Errorf("%v: Queue %v, by which %d surely are served, then %v, Queue %v", b, best, n, sure(c), queued(c))
		}
		if len(sure(c)) > len(sure(b)) {
			counts["more"]++
		}
	}
	enough(t, counts, 30, "more")
}
