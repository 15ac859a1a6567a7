package coat_test

// The reference goes through all truths one by one, straight from the definitions, and so finds what package coat must return.

import (
	"math/rand/v2"
	"slices"

	"skewbald/api"
)

// none stands for a coat that is not laid, or not dry, and for a number that there is not.
const none = -1

// has reports whether n is in a set.
func has(set, n int) bool { return set>>n&1 == 1 }

// course is in which hour each coat is laid in a truth, and at which time it is dry.
type course struct{ laid, dry []int }

// courseIn returns the course in a truth, which is the weather of each hour.
func courseIn(b api.CoatBook, truth []int) course {
	var c course
	ready := b.Start
	for _, k := range b.Coats {
		laid := firstHand(b, ready)
		dry := firstDry(k, truth, laid)
		c.laid, c.dry = append(c.laid, laid), append(c.dry, dry)
		ready = dry
	}
	return c
}

// firstHand returns the first hour with a hand that is not before a time, which may be none.
func firstHand(b api.CoatBook, time int) int {
	if time == none {
		return none
	}
	for hour := time; hour < len(b.Weather); hour++ {
		if has(b.Hands, hour) {
			return hour
		}
	}
	return none
}

// firstDry returns the first time at which a coat is dry that is laid in an hour, which may be none.
func firstDry(k api.CoatKind, truth []int, laid int) int {
	if laid == none {
		return none
	}
	for time := laid; time <= len(truth); time++ {
		points := 0
		for _, weather := range truth[laid:time] {
			points += k.Gain[weather]
		}
		if points >= k.Need {
			return time
		}
	}
	return none
}

// truths returns all truths of a book.
func truths(b api.CoatBook) [][]int {
	all := [][]int{nil}
	for _, set := range b.Weather {
		var longer [][]int
		for _, known := range all {
			for weather := range 3 {
				if has(set, weather) {
					longer = append(longer, append(slices.Clone(known), weather))
				}
			}
		}
		all = longer
	}
	return all
}

// courses returns the courses in all truths of a book.
func courses(b api.CoatBook) []course {
	var all []course
	for _, truth := range truths(b) {
		all = append(all, courseIn(b, truth))
	}
	return all
}

// span returns from where to where some numbers lie; false if one of them is none.
func span(numbers []int) (api.Span, bool) {
	if slices.Contains(numbers, none) {
		return api.Span{}, false
	}
	return to(slices.Min(numbers), slices.Max(numbers)), true
}

// laid, dry, can, many and laying are the references of the functions of these names.
func laid(all []course, coat int) (api.Span, bool) {
	var hours []int
	for _, c := range all {
		hours = append(hours, c.laid[coat])
	}
	return span(hours)
}

func dry(all []course, coat int) (api.Span, bool) {
	var times []int
	for _, c := range all {
		times = append(times, c.dry[coat])
	}
	return span(times)
}

// dryBy reports whether a coat is dry at a time.
func (c course) dryBy(coat, time int) bool {
	return c.dry[coat] != none && c.dry[coat] <= time
}

func can(all []course, coat, time int) int {
	count := 0
	for _, c := range all {
		if c.dryBy(coat, time) {
			count++
		}
	}
	switch count {
	case 0:
		return 0
	case len(all):
		return 2
	}
	return 1
}

func many(all []course) api.Span {
	var counts []int
	for _, c := range all {
		wet := 0
		for _, time := range c.dry {
			if time == none {
				wet++
			}
		}
		counts = append(counts, len(c.dry)-wet)
	}
	return to(slices.Min(counts), slices.Max(counts))
}

func laying(all []course) []int {
	var hours []int
	for _, c := range all {
		for _, hour := range c.laid {
			if hour != none {
				hours = append(hours, hour)
			}
		}
	}
	slices.Sort(hours)
	return slices.Compact(hours)
}

// drying returns the coat that dries in an hour, or none.
func (c course) drying(hour int) int {
	for coat := range c.laid {
		if c.laid[coat] != none && c.laid[coat] <= hour && (c.dry[coat] == none || c.dry[coat] > hour) {
			return coat
		}
	}
	return none
}

// isWorst reports whether a truth is that of Worst: each hour by itself.
func isWorst(b api.CoatBook, truth []int) bool {
	c := courseIn(b, truth)
	for hour, weather := range truth {
		var gain [3]int
		if coat := c.drying(hour); coat != none {
			gain = b.Coats[coat].Gain
		}
		for other := range 3 {
			if has(b.Weather[hour], other) && (gain[other] < gain[weather] || gain[other] == gain[weather] && other < weather) {
				return false
			}
		}
	}
	return true
}

// worst returns the truths that are that of Worst: there is just one.
func worst(b api.CoatBook) [][]int {
	return slices.DeleteFunc(truths(b), func(truth []int) bool { return !isWorst(b, truth) })
}

// inTime reports whether all coats of a book are dry at a time in each truth.
func inTime(b api.CoatBook, time int) bool {
	for _, c := range courses(b) {
		if !c.dryBy(len(b.Coats)-1, time) {
			return false
		}
	}
	return true
}

func late(b api.CoatBook, time int) int {
	for hour := len(b.Weather) - 1; hour >= 0; hour-- {
		if inTime(changed(b, start(hour)), time) {
			return hour
		}
	}
	return none
}

// clone returns a copy of a book that shares no memory with it.
func clone(b api.CoatBook) api.CoatBook {
	b.Coats, b.Weather = slices.Clone(b.Coats), slices.Clone(b.Weather)
	return b
}

// books returns valid books with few truths, always the same ones: for each hours from 1 to 7.
func books(seed uint64, many int) []api.CoatBook {
	r := rand.New(rand.NewPCG(seed, 3))
	var all []api.CoatBook
	for n := range many {
		all = append(all, anyBook(r, 1+n%7, 1+r.IntN(api.CoatMany), 8))
	}
	return all
}

// longBooks returns valid books with the most hours, and mostly so many truths that nobody could go through all of them.
func longBooks(seed uint64, many int) []api.CoatBook {
	r := rand.New(rand.NewPCG(seed, 4))
	var all []api.CoatBook
	for range many {
		all = append(all, anyBook(r, api.CoatHours-r.IntN(4), 1+r.IntN(api.CoatMany), api.CoatNeed))
	}
	return all
}

// anyBook returns a book of so many hours and coats, none of which needs more than so many points.
func anyBook(r *rand.Rand, hours, coats, need int) api.CoatBook {
	var b api.CoatBook
	for range coats {
		k := kind(1+r.IntN(need), r.IntN(10), r.IntN(10), r.IntN(10))
		// A coat that gains the same in several weathers, or nothing in one of them.
		if r.IntN(3) == 0 {
			k.Gain[r.IntN(3)] = k.Gain[r.IntN(3)]
		}
		if r.IntN(3) == 0 {
			k.Gain[r.IntN(3)] = 0
		}
		b.Coats = append(b.Coats, k)
	}
	lacks := r.IntN(4)
	for hour := range hours {
		b.Weather = append(b.Weather, 1+r.IntN(7))
		if r.IntN(4) >= lacks {
			b.Hands |= 1 << hour
		}
	}
	if r.IntN(3) == 0 {
		b.Start = r.IntN(hours)
	}
	return b
}

// anyTruth returns one truth of a book.
func anyTruth(r *rand.Rand, b api.CoatBook) []int {
	var truth []int
	for _, set := range b.Weather {
		weather := r.IntN(3)
		for !has(set, weather) {
			weather = r.IntN(3)
		}
		truth = append(truth, weather)
	}
	return truth
}
