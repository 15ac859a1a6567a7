package mend_test

import (
	"math/bits"
	"math/rand/v2"
	"slices"
	"testing"

	"skewbald/api"
	"skewbald/mend"
)

// enough checks that each of some cases was met often enough for a test to tell something.
func enough(t *testing.T, counts map[string]int, least int, cases ...string) {
	t.Helper()
	for _, c := range cases {
		if counts[c] < least {
			t.Errorf("%s: %d times", c, counts[c])
		}
	}
}

// P8.1, P8.2, P8.4, P8.5: the reference finds the same.
func TestSpansLikeTheReference(t *testing.T) {
	counts := map[string]int{}
	for _, b := range append(books(91, 600, 3000), books(92, 3, 1<<18)...) {
		k := know(b)
		wanted := api.OK
		if k.many == 0 {
			wanted = api.ErrMendFalse
			counts["nobody's"]++
		}
		for n := range b.Jobs {
			if s, e := mend.Job(b, n); s != k.costs[n] || e != wanted {
				t.Errorf("Job %v, %d: %v, %d, want %v", b, n, s, e, k.costs[n])
			}
			if pence, e := mend.Raise(b, n); pence != k.losts[n].High || e != wanted {
				t.Errorf("Raise %v, %d: %d, %d, want %v", b, n, pence, e, k.losts[n])
			}
		}
		if s, e := mend.Bill(b); s != k.bill || e != wanted {
			t.Errorf("Bill %v: %v, %d, want %v", b, s, e, k.bill)
		}
		if s, e := mend.Loss(b); s != k.loss || e != wanted {
			t.Errorf("Loss %v: %v, %d, want %v", b, s, e, k.loss)
		}
		dear := k.dear(b)
		counts[[]string{"none is dear", "0 is dear", "1 is dear", "2 is dear", "3 is dear"}[dear+1]]++
		if dear == nothing {
			dear = 0
			if wanted == api.OK {
				wanted = api.ErrNone
			}
		}
		if n, e := mend.Dear(b); n != dear || e != wanted {
			t.Errorf("Dear %v: %d, %d, want %d, %d", b, n, e, dear, wanted)
		}
	}
	enough(t, counts, 15, "nobody's", "none is dear", "0 is dear", "1 is dear", "2 is dear", "3 is dear")
}

// P8.3, P8.9: the reference finds the same: both ends of the bill, and nothing beyond them, can be.
func TestBillsLikeTheReference(t *testing.T) {
	counts := map[string]int{}
	for _, b := range append(books(93, 400, 3000), books(94, 3, 1<<18)...) {
		k := know(b)
		if k.many == 0 {
			continue
		}
		s, _ := mend.Bill(b)
		for pence := k.bill.Low - 3; pence <= k.bill.High+3; pence++ {
			want := k.whose(pence)
			l, e := mend.Whose(b, pence)
			if !slices.Equal(l, want) || e != api.OK {
				t.Errorf("Whose %v, %d: %v, %d, want %v", b, pence, l, e, want)
			}
			is, e := mend.Can(b, pence)
			if is != (len(want) > 0) || e != api.OK {
				t.Errorf("Can %v, %d: %v, %d", b, pence, is, e)
			}
			isWithin := s.Low <= pence && pence <= s.High
			if !isWithin && is || (pence == s.Low || pence == s.High) && !is {
				t.Errorf("Can %v, %d: %v, but Bill %v", b, pence, is, s)
			}
			switch {
			case isWithin && !is:
				counts["between, but cannot be"]++
			case len(want) == 1:
				counts["one maker"]++
			case len(want) > 1:
				counts["several makers"]++
			}
		}
	}
	enough(t, counts, 300, "between, but cannot be", "one maker", "several makers")
}

// P8.8: whoever made the horse, whatever was changed, and whatever hours and parts each job truly took.
func TestToTheLastPenny(t *testing.T) {
	lies := func(n int, s api.Span, e api.Errno) bool { return e == api.OK && s.Low <= n && n <= s.High }
	counts := map[string]int{}
	for b, truly := range wideBooks(95, 800) {
		for n := range b.Jobs {
			if s, e := mend.Job(b, n); !lies(truly.cost(b, n), s, e) {
				t.Errorf("Job %v, %d: %v, %d, but %v", b, n, s, e, truly)
			}
			if pence, e := mend.Raise(b, n); truly.lost(b, n) > pence || e != api.OK {
				t.Errorf("Raise %v, %d: %d, %d, but %v", b, n, pence, e, truly)
			}
		}
		bill, loss := truly.bill(b), truly.loss(b)
		if s, e := mend.Bill(b); !lies(bill, s, e) {
			t.Errorf("Bill %v: %v, %d, but %v", b, s, e, truly)
		}
		if s, e := mend.Loss(b); !lies(loss, s, e) {
			t.Errorf("Loss %v: %v, %d, but %v", b, s, e, truly)
		}
		if is, e := mend.Can(b, bill); !is || e != api.OK {
			t.Errorf("Can %v, %d: %v, %d, but %v", b, bill, is, e, truly)
		}
		if l, e := mend.Whose(b, bill); !slices.Contains(l, truly.maker) || e != api.OK {
			t.Errorf("Whose %v, %d: %v, %d, but %v", b, bill, l, e, truly)
		}
		if _, e := mend.Dear(b); loss > 0 && e != api.OK {
			t.Errorf("Dear %v: %d, but %v", b, e, truly)
		}
		if loss > 0 {
			counts["lost"]++
		} else {
			counts["not lost"]++
		}
		if bits.OnesCount(uint(truly.changed)) > 1 {
			counts["several were changed"]++
		}
	}
	enough(t, counts, 100, "lost", "not lost", "several were changed")
}

// alone returns the book in which one maker alone is known.
func alone(b api.MendBook, maker int) api.MendBook {
	return changed(b, makers(slices.Clone(b.Maker.Makers[maker])), extra(b.Extra[maker]))
}

// P8.9: both ends of the bill can be, nothing beyond them can; with each maker that is told, and no other one, the bill can be just so.
func TestTheEndsOfTheBill(t *testing.T) {
	counts := map[string]int{}
	for b, truly := range wideBooks(96, 400) {
		s, e := mend.Bill(b)
		if e != api.OK {
			t.Errorf("Bill %v: %d", b, e)
		}
		for pence, want := range map[int]bool{s.Low: true, s.High: true, s.Low - 1: false, s.High + 1: false, s.Low - 10: false, s.High + 10: false} {
			if is, e := mend.Can(b, pence); is != want || e != api.OK {
				t.Errorf("Can %v, %d: %v, %d, but Bill %v", b, pence, is, e, s)
			}
		}
		for _, pence := range []int{s.Low, s.High, (s.Low + s.High) / 2, truly.bill(b)} {
			l, e := mend.Whose(b, pence)
			if !slices.IsSorted(l) || e != api.OK {
				t.Errorf("Whose %v, %d: %v, %d", b, pence, l, e)
			}
			for maker := range b.Maker.Makers {
				is, e := mend.Can(alone(b, maker), pence)
				if is != slices.Contains(l, maker) || e != api.OK && e != api.ErrMendFalse {
					t.Errorf("Whose %v, %d: %v, but of %d alone %v, %d", b, pence, l, maker, is, e)
				}
				counts[map[bool]string{true: "can be", false: "cannot be"}[is]]++
			}
		}
	}
	enough(t, counts, 500, "can be", "cannot be")
}

// isNoLess reports whether both ends of a span are no less than those of another one.
func isNoLess(s, other api.Span) bool { return s.Low >= other.Low && s.High >= other.High }

// P8.10: with a greater Cap no less is paid, and no more is lost. Where nothing is remembered nothing is lost.
func TestAGreaterCap(t *testing.T) {
	r := rand.New(rand.NewPCG(97, 8))
	counts := map[string]int{}
	for b := range wideBooks(97, 400) {
		paid, _ := mend.Bill(b)
		lost, _ := mend.Loss(b)
		for n, j := range b.Jobs {
			if j.Cap == free || j.Cap == api.MendCap {
				continue
			}
			greater := min(api.MendCap, j.Cap+1+r.IntN(40))
			for _, c := range []api.MendBook{changed(b, most(n, greater)), changed(b, most(n, free))} {
				p, e := mend.Bill(c)
				l, f := mend.Loss(c)
				if !isNoLess(p, paid) || !isNoLess(lost, l) || e != api.OK || f != api.OK {
					t.Errorf("%v: %v, lost %v; with a greater Cap of %d %v, lost %v", b, paid, lost, n, p, l)
				}
				if p != paid {
					counts["more paid"]++
				}
				if l != lost {
					counts["less lost"]++
				}
			}
			if pence, e := mend.Raise(changed(b, most(n, free)), n); pence != 0 || e != api.OK {
				t.Errorf("Raise %v, %d, if nothing is remembered: %d, %d", b, n, pence, e)
			}
		}
		wantNoLoss(t, b)
	}
	enough(t, counts, 200, "more paid", "less lost")
}

// wantNoLoss checks that nothing is lost if nothing is remembered of any job, and that what they cost is paid then.
func wantNoLoss(t *testing.T, b api.MendBook) {
	t.Helper()
	b = clone(b)
	for n := range b.Jobs {
		b.Jobs[n].Cap = free
	}
	if s, e := mend.Loss(b); s != just(0) || e != api.OK {
		t.Errorf("Loss %v, if nothing is remembered: %v, %d", b, s, e)
	}
	if n, e := mend.Dear(b); n != 0 || e != api.ErrNone {
		t.Errorf("Dear %v, if nothing is remembered: %d, %d", b, n, e)
	}
	for n, j := range b.Jobs {
		cost, _ := mend.Job(b, n)
		if s, e := mend.Bill(changed(b, jobs(j))); s != cost || e != api.OK {
			t.Errorf("Bill of the job %d of %v alone: %v, %d, but it costs %v", n, b, s, e, cost)
		}
	}
}

// P8.11: with the price raised as is told nothing is lost of a job; with a penny less something is. The job of which the most is lost must be raised the most.
func TestThePriceThatIsRaised(t *testing.T) {
	counts := map[string]int{}
	for b := range wideBooks(98, 400) {
		var raises []int
		for n, j := range b.Jobs {
			pence, e := mend.Raise(b, n)
			if pence < 0 || e != api.OK {
				t.Errorf("Raise %v, %d: %d, %d", b, n, pence, e)
			}
			raises = append(raises, pence)
			one := changed(b, jobs(j))
			if pence == 0 {
				counts["not raised"]++
				wantLoss(t, one, 0)
				continue
			}
			counts["raised"]++
			wantLoss(t, one, pence)
			wantLoss(t, changed(one, most(0, j.Cap+pence)), 0)
			wantLoss(t, changed(one, most(0, j.Cap+pence-1)), 1)
		}
		if n, e := mend.Dear(b); e == api.OK && n != slices.Index(raises, slices.Max(raises)) || (e == api.ErrNone) != (slices.Max(raises) == 0) {
			t.Errorf("Dear %v: %d, %d, but they must be raised by %v", b, n, e, raises)
		}
	}
	enough(t, counts, 200, "raised", "not raised")
}

// wantLoss checks what is lost of the one job of a book, at most.
func wantLoss(t *testing.T, b api.MendBook, want int) {
	t.Helper()
	if s, e := mend.Loss(b); s.High != want || e != api.OK {
		t.Errorf("Loss %v: %v, %d, want %d at most", b, s, e, want)
	}
}

// P8.12: one mark more never lets a bill be that could not be before, nor with a maker with whom it could not.
func TestOneMarkMore(t *testing.T) {
	r := rand.New(rand.NewPCG(99, 8))
	counts := map[string]int{}
	for _, b := range books(99, 250, 3000) {
		if len(b.Maker.Seen) == api.MakerSeen {
			continue
		}
		with := changed(b, more(anyMarks(r, kinds(b), 1)...))
		before, e := mend.Bill(b)
		then, f := mend.Bill(with)
		if f != api.OK {
			counts["nobody's"]++
			continue
		}
		if e != api.OK || then.Low < before.Low || then.High > before.High {
			t.Errorf("Bill %v: %v, %d, with %v %v", b, before, e, with.Maker.Seen, then)
		}
		for pence := before.Low - 1; pence <= before.High+1; pence++ {
			l, _ := mend.Whose(b, pence)
			m, _ := mend.Whose(with, pence)
			for _, maker := range m {
				if !slices.Contains(l, maker) {
					t.Errorf("Whose %v, %d: %v, with %v %v", b, pence, l, with.Maker.Seen, m)
				}
			}
			switch {
			case len(m) == len(l):
				counts["the same makers"]++
			case len(m) > 0:
				counts["fewer makers"]++
			default:
				counts["no makers"]++
			}
		}
	}
	enough(t, counts, 30, "nobody's", "the same makers", "fewer makers", "no makers")
}

// P8.13, P8.6: the reference finds the same: what is told is just the sum, with fewer coins it cannot be paid, and no list that is as short comes before it.
func TestTheFewestCoins(t *testing.T) {
	r := rand.New(rand.NewPCG(100, 8))
	lengths := map[int]int{}
	for range 1500 {
		wantPay(t, anyCoins(r), r.IntN(90), lengths)
	}
	for range 60 {
		wantPay(t, anyCoins(r), r.IntN(api.MendPayment+1), lengths)
	}
	for pence := range 60 {
		wantPay(t, []int{1, 2, 3, 4}, pence, lengths)
		wantPay(t, []int{1, 4, 5, 6}, pence, lengths)
		wantPay(t, []int{1, 5, 6, 9}, pence, lengths)
		wantPay(t, []int{1, 7, 10}, pence, lengths)
	}
	for many := 1; many <= api.MendCoins; many++ {
		if lengths[many] < 50 {
			t.Errorf("%d times there were %d coins", lengths[many], many)
		}
	}
}

// wantPay checks with which coins a sum is paid.
func wantPay(t *testing.T, list []int, pence int, lengths map[int]int) {
	t.Helper()
	lengths[len(list)]++
	want := pay(list, pence)
	l, e := mend.Pay(example(coins(list...)), pence)
	if !slices.Equal(l, want) || e != api.OK {
		t.Errorf("Pay %v, %d: %v, %d, want %v", list, pence, l, e, want)
	}
	worth := 0
	for n, many := range l {
		worth += many * list[n]
	}
	if worth != pence {
		t.Errorf("Pay %v, %d: %v, which is %d", list, pence, l, worth)
	}
}
