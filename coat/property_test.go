package coat_test

import (
	"math/rand/v2"
	"slices"
	"testing"

	"skewbald/api"
	"skewbald/coat"
)

// or returns a number, or none if there is none.
func or(n int, e api.Errno) int {
	if e == api.ErrNone && n == 0 {
		return none
	}
	return n
}

// sameSpan reports whether a span, or that there is none, was returned.
func sameSpan(s api.Span, e api.Errno, want api.Span, ok bool) bool {
	return s == want && ok == (e == api.OK) && ok != (e == api.ErrNone)
}

// P3.1: the reference finds the same.
func TestSpansLikeTheReference(t *testing.T) {
	counts := map[bool]int{}
	wide := 0
	for _, b := range books(31, 700) {
		all := courses(b)
		for number := range b.Coats {
			want, ok := laid(all, number)
			if s, e := coat.Laid(b, number); !sameSpan(s, e, want, ok) {
				t.Errorf("Laid %v, %d: %v, %d, want %v, %v", b, number, s, e, want, ok)
			}
			want, ok = dry(all, number)
			if s, e := coat.Dry(b, number); !sameSpan(s, e, want, ok) {
				t.Errorf("Dry %v, %d: %v, %d, want %v, %v", b, number, s, e, want, ok)
			}
			counts[ok]++
			if want.Low < want.High {
				wide++
			}
		}
	}
	if counts[true] < 300 || counts[false] < 300 || wide < 100 {
		t.Errorf("dry: %v, in %d cases not always at the same time", counts, wide)
	}
}

// P3.2: the reference finds the same.
func TestCanLikeTheReference(t *testing.T) {
	var counts [3]int
	for _, b := range books(32, 700) {
		all := courses(b)
		for number := range b.Coats {
			for time := range len(b.Weather) + 1 {
				want := can(all, number, time)
				counts[want]++
				if n, e := coat.Can(b, number, time); n != want || e != api.OK {
					t.Errorf("Can %v, %d, %d: %d, %d, want %d", b, number, time, n, e, want)
				}
			}
		}
	}
	if slices.Min(counts[:]) < 300 {
		t.Errorf("the answers of Can were %v", counts)
	}
}

// P3.3 to P3.5: the reference finds the same.
func TestHoursLikeTheReference(t *testing.T) {
	gaps := 0
	for _, b := range books(33, 700) {
		all := courses(b)
		want := many(all)
		if s, e := coat.Many(b); s != want || e != api.OK {
			t.Errorf("Many %v: %v, %d, want %v", b, s, e, want)
		}
		hours := laying(all)
		if l, e := coat.Laying(b); !slices.Equal(l, hours) || e != api.OK {
			t.Errorf("Laying %v: %v, %d, want %v", b, l, e, hours)
		}
		if n := len(hours); n > 0 && hours[n-1]-hours[0] > n-1 {
			gaps++
		}
		truths := worst(b)
		if l, e := coat.Worst(b); len(truths) != 1 || !slices.Equal(l, truths[0]) || e != api.OK {
			t.Errorf("Worst %v: %v, %d, want %v", b, l, e, truths)
		}
	}
	if gaps < 100 {
		t.Errorf("%d times no coat was laid in an hour between others", gaps)
	}
}

// P3.6: the reference finds the same.
func TestLateLikeTheReference(t *testing.T) {
	counts := map[bool]int{}
	for _, b := range books(34, 200) {
		for time := range len(b.Weather) + 1 {
			want := late(b, time)
			counts[want > 0]++
			if n, e := coat.Late(b, time); or(n, e) != want || (e == api.OK) != (want >= 0) {
				t.Errorf("Late %v, %d: %d, %d, want %d", b, time, n, e, want)
			}
		}
	}
	if counts[true] < 30 {
		t.Errorf("later than at once: %v", counts)
	}
}

// inside reports whether a number, of what is so in a truth, may be so by what was returned: if it is always so it lies in the span.
func inside(s api.Span, e api.Errno, n int) bool {
	return e == api.ErrNone || e == api.OK && s.Low <= n && n <= s.High
}

// P3.8: in each truth each coat is laid and dry, and as many coats are dry, as is returned; a hand is there, in an hour that is returned, whenever one is laid.
func TestDryInEveryWeather(t *testing.T) {
	r := rand.New(rand.NewPCG(35, 3))
	sure := 0
	for _, b := range append(longBooks(35, 150), append(limits(), example(), example(single), example(shift))...) {
		dries, _ := coat.Many(b)
		hours, _ := coat.Laying(b)
		for range 30 {
			c := courseIn(b, anyTruth(r, b))
			if n := many([]course{c}); n.Low < dries.Low || n.Low > dries.High {
				t.Errorf("Many %v: %v, but truly %d", b, dries, n.Low)
			}
			for number := range b.Coats {
				s, e := coat.Laid(b, number)
				if !inside(s, e, c.laid[number]) {
					t.Errorf("Laid %v, %d: %v, %d, but truly %d", b, number, s, e, c.laid[number])
				}
				s, e = coat.Dry(b, number)
				if !inside(s, e, c.dry[number]) {
					t.Errorf("Dry %v, %d: %v, %d, but truly %d", b, number, s, e, c.dry[number])
				}
				if e == api.OK {
					sure++
				}
				if hour := c.laid[number]; hour != none && (!has(b.Hands, hour) || !slices.Contains(hours, hour)) {
					t.Errorf("Laying %v: %v, but %d is truly laid in %d", b, hours, number, hour)
				}
				for time := range len(b.Weather) + 1 {
					if n, _ := coat.Can(b, number, time); n != 1 && (n == 2) != c.dryBy(number, time) {
						t.Errorf("Can %v, %d, %d: %d, but truly dry at %d", b, number, time, n, c.dry[number])
					}
				}
			}
		}
	}
	if sure < 3000 {
		t.Errorf("%d were surely dry", sure)
	}
}

// only returns the book in which one truth is the only one.
func only(b api.CoatBook, truth []int) api.CoatBook {
	return changed(b, func(c *api.CoatBook) {
		for hour, weather := range truth {
			c.Weather[hour] = 1 << weather
		}
	})
}

// P3.9: in the worst weather each coat is laid and dry at the upper ends, or not at all, if it need not be, and the fewest are dry.
func TestTheWorstWeather(t *testing.T) {
	all, not := 0, 0
	for _, b := range append(longBooks(36, 300), append(books(36, 300), append(limits(), example(), example(single), example(shift))...)...) {
		truth, e := coat.Worst(b)
		if e != api.OK || len(truth) != len(b.Weather) {
			t.Errorf("Worst %v: %v, %d", b, truth, e)
			continue
		}
		for hour, weather := range truth {
			if !has(b.Weather[hour], weather) {
				t.Errorf("Worst %v: %v, but the hour %d", b, truth, hour)
			}
		}
		c := courseIn(b, truth)
		for number := range b.Coats {
			s, e := coat.Laid(b, number)
			if e == api.OK && s.High != c.laid[number] || (e == api.ErrNone) != (c.laid[number] == none) {
				t.Errorf("Laid %v, %d: %v, %d, in the worst weather %d", b, number, s, e, c.laid[number])
			}
			s, e = coat.Dry(b, number)
			if e == api.OK && s.High != c.dry[number] || (e == api.ErrNone) != (c.dry[number] == none) {
				t.Errorf("Dry %v, %d: %v, %d, in the worst weather %d", b, number, s, e, c.dry[number])
			}
			if e == api.OK {
				all++
			} else {
				not++
			}
		}
		if s, _ := coat.Many(b); just(s.Low) != many([]course{c}) {
			t.Errorf("Many %v: %v, in the worst weather %v", b, s, many([]course{c}))
		}
		if s, _ := coat.Many(only(b, truth)); s.Low != s.High {
			t.Errorf("Many %v: %v in one truth", b, s)
		}
	}
	if all < 200 || not < 200 {
		t.Errorf("%d surely dry, %d not", all, not)
	}
}

// P3.9: both ends of each span are so in a truth, and of all hours of Laying each one.
func TestBothEnds(t *testing.T) {
	for _, b := range books(37, 400) {
		all := courses(b)
		for number := range b.Coats {
			if s, e := coat.Laid(b, number); e == api.OK && !(isIn(all, s.Low, number, courseLaid) && isIn(all, s.High, number, courseLaid)) {
				t.Errorf("Laid %v, %d: %v", b, number, s)
			}
			if s, e := coat.Dry(b, number); e == api.OK && !(isIn(all, s.Low, number, courseDry) && isIn(all, s.High, number, courseDry)) {
				t.Errorf("Dry %v, %d: %v", b, number, s)
			}
		}
		s, _ := coat.Many(b)
		low, high := false, false
		for _, c := range all {
			low = low || many([]course{c}) == just(s.Low)
			high = high || many([]course{c}) == just(s.High)
		}
		if !low || !high {
			t.Errorf("Many %v: %v", b, s)
		}
	}
}

func courseLaid(c course) []int { return c.laid }

func courseDry(c course) []int { return c.dry }

// isIn reports whether a number of a coat is so in some truth.
func isIn(all []course, n, number int, of func(c course) []int) bool {
	return slices.ContainsFunc(all, func(c course) bool { return of(c)[number] == n })
}

// P3.10: from the hour that is told on, and from each one before it, all coats surely are dry in time; from each one behind it not.
func TestTheLatestHour(t *testing.T) {
	found := 0
	for _, b := range append(longBooks(38, 100), append(books(38, 200), example(), example(single), example(single, shift))...) {
		last := len(b.Coats) - 1
		for time := range len(b.Weather) + 1 {
			n, e := coat.Late(b, time)
			latest := or(n, e)
			if latest > 0 {
				found++
			}
			for hour := range b.Weather {
				answer, _ := coat.Can(changed(b, start(hour)), last, time)
				if (answer == 2) != (hour <= latest) {
					t.Errorf("Late %v, %d: %d, %d, but from %d on Can is %d", b, time, n, e, hour, answer)
				}
			}
		}
	}
	if found < 300 {
		t.Errorf("%d could begin later than at once", found)
	}
}

// betters returns some ways to change a book so that no coat may be dry later.
func betters(r *rand.Rand, b api.CoatBook) map[string]api.CoatBook {
	number, hour, weather := r.IntN(len(b.Coats)), r.IntN(len(b.Weather)), r.IntN(3)
	all := map[string]api.CoatBook{
		"a hand more": changed(b, func(c *api.CoatBook) { c.Hands |= 1 << hour }),
		"less need":   changed(b, func(c *api.CoatBook) { c.Coats[number].Need = max(1, c.Coats[number].Need-1-r.IntN(4)) }),
		"more gain": changed(b, func(c *api.CoatBook) {
			gain := &c.Coats[number].Gain[weather]
			*gain = min(api.CoatGain, *gain+1+r.IntN(3))
		}),
	}
	if left := b.Weather[hour] &^ (1 << weather); left != 0 {
		all["a weather that cannot come"] = changed(b, func(c *api.CoatBook) { c.Weather[hour] = left })
	}
	return all
}

// surelyDry returns the time at which a coat is dry at most; it is behind the end if it need not be dry.
func surelyDry(b api.CoatBook, number int) int {
	s, e := coat.Dry(b, number)
	if e != api.OK {
		return len(b.Weather) + 1
	}
	return s.High
}

// P3.11: with a weather less, a hand more, less need or more gain no coat surely is dry later.
func TestBetterBooks(t *testing.T) {
	r := rand.New(rand.NewPCG(39, 3))
	earlier := map[string]int{}
	for _, b := range append(longBooks(39, 600), books(39, 600)...) {
		for name, c := range betters(r, b) {
			if e := coat.Check(c); e != api.OK {
				t.Errorf("%s: Check %v: %d", name, c, e)
			}
			for number := range b.Coats {
				before, then := surelyDry(b, number), surelyDry(c, number)
				if then > before {
					t.Errorf("%s: Dry %v, %d: %d, then %d", name, b, number, before, then)
				}
				if then < before {
					earlier[name]++
				}
			}
		}
	}
	if len(earlier) < 4 {
		t.Errorf("earlier: %v", earlier)
	}
	for name, count := range earlier {
		if count < 10 {
			t.Errorf("%s: earlier %d times", name, count)
		}
	}
}

// P3.12: a coat is dry only behind the hour in which it was laid, and the next one is not laid before that.
func TestOneUponTheOther(t *testing.T) {
	pairs := 0
	for _, b := range append(longBooks(40, 300), append(books(40, 600), append(limits(), example(), example(shift))...)...) {
		ready := just(b.Start)
		for number := range b.Coats {
			laid, e := coat.Laid(b, number)
			dry, f := coat.Dry(b, number)
			if e == api.OK && (laid.Low < ready.Low || laid.High < ready.High) {
				t.Errorf("Laid %v, %d: %v, but the one before it is dry at %v", b, number, laid, ready)
			}
			if f == api.OK && (e != api.OK || dry.Low <= laid.Low || dry.High <= laid.High) {
				t.Errorf("Dry %v, %d: %v, %d, but laid in %v, %d", b, number, dry, f, laid, e)
			}
			if e == api.OK {
				if n, _ := coat.Can(b, number, laid.Low); n != 0 {
					t.Errorf("Can %v, %d, %d: %d, in the hour in which it is laid", b, number, laid.Low, n)
				}
			}
			if f != api.OK {
				if number+1 < len(b.Coats) {
					if s, e := coat.Laid(b, number+1); e != api.ErrNone {
						t.Errorf("Laid %v, %d: %v, %d, upon one that need not be dry", b, number+1, s, e)
					}
				}
				break
			}
			ready = dry
			pairs += min(number, 1)
		}
	}
	if pairs < 300 {
		t.Errorf("%d coats were dry upon others", pairs)
	}
}
