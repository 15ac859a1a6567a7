package maker_test

import (
	"math/bits"
	"math/rand/v2"
	"slices"
	"testing"

	"skewbald/api"
	"skewbald/maker"
)

// P5.1, P5.2: the reference finds the same.
func TestWhoLikeTheReference(t *testing.T) {
	many := map[int]int{}
	for _, b := range append(books(51, 600), wideBooks(51, 4)...) {
		is, want := right(b), know(b).who()
		if r, e := maker.Right(b); r != is || e != api.OK {
			t.Errorf("Right %v: %v, %d", b, r, e)
		}
		wanted := api.OK
		if !is {
			wanted = api.ErrMakerFalse
		}
		if l, e := maker.Who(b); !slices.Equal(l, want) || e != wanted {
			t.Errorf("Who %v: %v, %d, want %v", b, l, e, want)
		}
		if is {
			many[len(want)]++
		} else {
			many[none]++
		}
	}
	for n := none; n < 5; n++ {
		if many[n] < 15 {
			t.Errorf("%d times there were %d makers", many[n], n)
		}
	}
}

// P5.3: the reference finds the same.
func TestNeedsLikeTheReference(t *testing.T) {
	seen := map[int]int{}
	for _, b := range append(books(52, 2000), wideBooks(52, 4)...) {
		for number := range b.Makers {
			want, wanted := needs(b, number), api.OK
			switch {
			case !right(b):
				want, wanted = 0, api.ErrMakerFalse
			case want == none:
				want, wanted = 0, api.ErrNone
				seen[none]++
			default:
				seen[want]++
			}
			if n, e := maker.Needs(b, number); n != want || e != wanted {
				t.Errorf("Needs %v, %d: %d, %d, want %d, %d", b, number, n, e, want, wanted)
			}
		}
	}
	for n := none; n <= 3; n++ {
		if seen[n] < 30 {
			t.Errorf("%d times %d kinds were needed", seen[n], n)
		}
	}
}

// P5.4: the reference finds the same.
func TestChangedLikeTheReference(t *testing.T) {
	var seen [3]int
	nobody := 0
	for _, b := range append(books(53, 600), wideBooks(53, 4)...) {
		k := know(b)
		for number := range b.Makers {
			for kind := range kinds(b) {
				want, wanted := 0, api.OK
				switch {
				case !right(b):
					wanted = api.ErrMakerFalse
				case k.truths[number] == 0:
					wanted = api.ErrNone
					nobody++
				default:
					want = k.changed(number, kind)
					seen[want]++
				}
				if n, e := maker.Changed(b, number, kind); n != want || e != wanted {
					t.Errorf("Changed %v, %d, %d: %d, %d, want %d, %d", b, number, kind, n, e, want, wanted)
				}
			}
		}
	}
	if slices.Min(seen[:]) < 100 || nobody < 100 {
		t.Errorf("the answers were %v, and none %d times", seen, nobody)
	}
}

// P5.5: the reference finds the same.
func TestValuesLikeTheReference(t *testing.T) {
	many := map[int]int{}
	for _, b := range append(books(54, 600), wideBooks(54, 4)...) {
		k := know(b)
		for kind := range kinds(b) {
			want, wanted := k.values(kind), api.OK
			many[len(want)]++
			if !right(b) {
				wanted = api.ErrMakerFalse
			}
			if l, e := maker.Values(b, kind); !slices.Equal(l, want) || e != wanted {
				t.Errorf("Values %v, %d: %v, %d, want %v, %d", b, kind, l, e, want, wanted)
			}
		}
	}
	for n := range 6 {
		if many[n] < 30 {
			t.Errorf("%d times there were %d values", many[n], n)
		}
	}
}

// P5.6, P5.12: the reference finds the same: two makers that can be told apart are never both possible once all values are known; of two others there are values with which both are.
func TestToldLikeTheReference(t *testing.T) {
	told := map[bool]int{}
	for _, b := range books(55, 250) {
		for one := range b.Makers {
			for other := range b.Makers {
				if one == other {
					continue
				}
				v, can := both(b, one, other)
				told[!can]++
				if is, e := maker.Told(b, one, other); is != !can || e != api.OK {
					t.Errorf("Told %v, %d, %d: %v, %d, but with %v %v", b, one, other, is, e, v, can)
				}
				l, e := maker.Who(exactly(b, v))
				if can && (e != api.OK || !slices.Contains(l, one) || !slices.Contains(l, other)) {
					t.Errorf("Who %v, in which %v was seen: %v, %d, but %d and %d are", b, v, l, e, one, other)
				}
			}
		}
	}
	if told[true] < 200 || told[false] < 200 {
		t.Errorf("told apart or not: %v", told)
	}
}

// P5.12: in books of all sizes two makers that can be told apart are never both possible once all values are known.
func TestToldOfWideBooks(t *testing.T) {
	r := rand.New(rand.NewPCG(56, 7))
	told, not := 0, 0
	for _, b := range append(books(56, 300), wideBooks(56, 60)...) {
		for range 40 {
			v := anyTruth(r, b).values
			l, e := maker.Who(exactly(b, v))
			if e != api.OK {
				t.Errorf("Who %v, in which %v was seen: %v, %d", b, v, l, e)
			}
			for one := range b.Makers {
				for other := range one {
					is, _ := maker.Told(b, one, other)
					if is && slices.Contains(l, one) && slices.Contains(l, other) {
						t.Errorf("Told %v, %d, %d, but with %v both are", b, one, other, v)
					}
					if is {
						told++
					} else {
						not++
					}
				}
			}
		}
	}
	if told < 2000 || not < 2000 {
		t.Errorf("%d were told apart, %d not", told, not)
	}
}

// P5.7: the reference finds the same.
func TestLookLikeTheReference(t *testing.T) {
	seen := map[int]int{}
	for _, b := range append(books(57, 3000), wideBooks(57, 4)...) {
		want, wanted := know(b).look(b), api.OK
		switch {
		case !right(b):
			want, wanted = 0, api.ErrMakerFalse
		case want == none:
			want, wanted = 0, api.ErrNone
			seen[none]++
		default:
			seen[want]++
		}
		if n, e := maker.Look(b); n != want || e != wanted {
			t.Errorf("Look %v: %d, %d, want %d, %d", b, n, e, want, wanted)
		}
	}
	for n := none; n < 3; n++ {
		if seen[n] < 20 {
			t.Errorf("%d times the kind %d was looked at", seen[n], n)
		}
	}
}

// P5.7: once the value is known, whichever one it is, no more makers are possible than at the worst, and with another kind no fewer.
func TestTheBestKind(t *testing.T) {
	looked := 0
	for _, b := range append(books(58, 300), wideBooks(58, 40)...) {
		best, e := maker.Look(b)
		if e != api.OK {
			continue
		}
		looked++
		var lefts []int
		for kind := range kinds(b) {
			most := 0
			values, _ := maker.Values(b, kind)
			for _, value := range values {
				b := changed(merged(b), more(saw(kind, value)))
				l, e := maker.Who(b)
				if len(l) == 0 || e != api.OK {
					t.Errorf("Who %v: %v, %d", b, l, e)
				}
				most = max(most, len(l))
			}
			lefts = append(lefts, most)
		}
		if best != slices.Index(lefts, slices.Min(lefts)) {
			t.Errorf("Look %v: %d, but as many are left: %v", b, best, lefts)
		}
	}
	if looked < 100 {
		t.Errorf("%d times a kind was looked at", looked)
	}
}

// merged returns a book with one mark of each kind, which tells what all marks of this kind did.
func merged(b api.MakerBook) api.MakerBook {
	marks := make([]api.MakerMark, kinds(b))
	for kind := range marks {
		marks[kind] = saw(kind, 0, 1, 2, 3, 4)
	}
	for _, m := range b.Seen {
		marks[m.Kind].Values &= m.Values
	}
	return changed(b, seen(marks...))
}

// P5.8, P5.13: the reference finds the same: without the marks that are told somebody is possible, without fewer, or those before them, nobody is.
func TestWrongLikeTheReference(t *testing.T) {
	many := map[int]int{}
	later := 0
	for n, b := range append(books(59, 900), wideBooks(59, 10)...) {
		// Marks of many kinds, and mostly wrong ones.
		if n%3 == 1 {
			b = changed(b, func(b *api.MakerBook) {
				b.Seen = anyMarks(rand.New(rand.NewPCG(59, uint64(n))), kinds(*b), api.MakerSeen)
			})
		}
		want := wrong(b)
		many[len(want)]++
		if len(want) > 0 && want[0] > 0 {
			later++
		}
		l, e := maker.Wrong(b)
		if !slices.Equal(l, want) || e != api.OK {
			t.Errorf("Wrong %v: %v, %d, want %v", b, l, e, want)
		}
		for _, list := range sublists(len(b.Seen)) {
			w, e := maker.Who(without(b, list))
			if slices.Equal(list, l) {
				if len(w) == 0 || e != api.OK {
					t.Errorf("Wrong %v: %v, but without those %v, %d", b, l, w, e)
				}
				break
			}
			if len(w) > 0 {
				t.Errorf("Wrong %v: %v, but without %v %v, %d", b, l, list, w, e)
			}
		}
	}
	for n := range 4 {
		if many[n] < 30 {
			t.Errorf("%d times %d marks were wrong", many[n], n)
		}
	}
	if later < 100 {
		t.Errorf("%d times the first mark was not wrong", later)
	}
}

// P5.10: whoever made the horse, whichever marks repairs changed, and however it was rightly seen.
func TestOneSomeOrNone(t *testing.T) {
	r := rand.New(rand.NewPCG(60, 5))
	repaired := 0
	for range 2500 {
		b := anyBook(r, 1+r.IntN(api.MakerMany), 1+r.IntN(api.MakerKinds))
		truly := anyTruth(r, b)
		b.Seen = rightMarks(r, kinds(b), truly.values, r.IntN(api.MakerSeen+1))
		if is, e := maker.Right(b); !is || e != api.OK {
			t.Errorf("Right %v: %v, %d", b, is, e)
		}
		if l, e := maker.Who(b); !slices.Contains(l, truly.maker) || e != api.OK {
			t.Errorf("Who %v: %v, %d, but %v", b, l, e, truly)
		}
		if l, e := maker.Wrong(b); len(l) > 0 || e != api.OK {
			t.Errorf("Wrong %v: %v, %d, but %v", b, l, e, truly)
		}
		many := bits.OnesCount(uint(truly.changed))
		if n, e := maker.Needs(b, truly.maker); n > many || e != api.OK {
			t.Errorf("Needs %v: %d, %d, but %v", b, n, e, truly)
		}
		for kind := range kinds(b) {
			if l, e := maker.Values(b, kind); !slices.Contains(l, truly.values[kind]) || e != api.OK {
				t.Errorf("Values %v, %d: %v, %d, but %v", b, kind, l, e, truly)
			}
			n, e := maker.Changed(b, truly.maker, kind)
			if e != api.OK || n != 1 && (n == 2) != has(truly.changed, kind) {
				t.Errorf("Changed %v, %d: %d, %d, but %v", b, kind, n, e, truly)
			}
			if n == 2 {
				repaired++
			}
		}
	}
	if repaired < 200 {
		t.Errorf("%d kinds surely were changed", repaired)
	}
}

// isWithin reports whether all numbers of a list are in another one.
func isWithin(l, of []int) bool {
	return !slices.ContainsFunc(l, func(n int) bool { return !slices.Contains(of, n) })
}

// P5.11: one mark more never leaves a maker, or a value, that was not possible before.
func TestOneMarkMore(t *testing.T) {
	r := rand.New(rand.NewPCG(61, 5))
	fewer, lost := 0, 0
	for _, b := range append(books(61, 900), wideBooks(61, 100)...) {
		if len(b.Seen) == api.MakerSeen {
			continue
		}
		with := changed(b, more(anyMarks(r, kinds(b), 1)...))
		before, _ := maker.Who(b)
		then, _ := maker.Who(with)
		if !isWithin(then, before) {
			t.Errorf("Who %v: %v, with one mark more %v", b, before, then)
		}
		if len(then) < len(before) {
			fewer++
		}
		for kind := range kinds(b) {
			before, _ := maker.Values(b, kind)
			then, _ := maker.Values(with, kind)
			if !isWithin(then, before) {
				t.Errorf("Values %v, %d: %v, with one mark more %v", b, kind, before, then)
			}
			if len(then) < len(before) {
				lost++
			}
		}
	}
	if fewer < 100 || lost < 100 {
		t.Errorf("%d times fewer makers, %d times fewer values", fewer, lost)
	}
}

// P5.14: with more repairs all who were possible still are; a maker is possible just if no more kinds must have been changed than repairs can have.
func TestMoreRepairs(t *testing.T) {
	some, never := 0, 0
	for _, b := range append(books(62, 500), wideBooks(62, 60)...) {
		var before []int
		for n := range kinds(b) + 1 {
			b := changed(b, repairs(n))
			then, e := maker.Who(b)
			if !isWithin(before, then) {
				t.Errorf("Who %v: %v, with one less %v", b, then, before)
			}
			before = then
			for number := range b.Makers {
				many, f := maker.Needs(b, number)
				is := f == api.OK && many <= n
				if e == api.OK && is != slices.Contains(then, number) || e != api.OK && f != e {
					t.Errorf("Needs %v, %d: %d, %d, but Who %v, %d", b, number, many, f, then, e)
				}
				if is && many > 0 {
					some++
				}
				if f == api.ErrNone {
					never++
				}
			}
		}
	}
	if some < 300 || never < 300 {
		t.Errorf("%d were possible by repairs, %d never", some, never)
	}
}
