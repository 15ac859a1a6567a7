package coat

import (
	"iter"
	"slices"

	"skewbald/api"
)

// tooLate is a time behind each end.
const tooLate = api.CoatHours + 1

// truth is a book in one of the two truths between which all others lie.
type truth struct {
	*book
	// gained tells what is gained in an hour that can have the weathers of a set.
	gained func(g gains, set int) int
}

// truth returns the best truth, or the worst one.
func (b *book) truth(end int) truth {
	return truth{b, ends()[end]}
}

// times yields each time from 0 to the end, with its stage.
func (t truth) times() iter.Seq2[int, stage] {
	return func(yield func(time int, s stage) bool) {
		var s stage
		for hour := range t.end() {
			if !yield(hour, s) {
				return
			}
			s = t.after(s, hour, t.gain(s, hour))
		}
		yield(t.end(), s)
	}
}

// gain returns what is gained in an hour that begins with a stage.
func (t truth) gain(s stage, hour int) int {
	return t.gained(t.gainsIn(s, hour), t.Weather[hour])
}

// first returns the first time at which something is so, or tooLate.
func (t truth) first(so func(time int, s stage) bool) int {
	for time, s := range t.times() {
		if so(time, s) {
			return time
		}
	}
	return tooLate
}

// last returns the stage at the end.
func (t truth) last() stage {
	var last stage
	for _, s := range t.times() {
		last = s
	}
	return last
}

// weather returns the weather of each hour: the first one in which as much is gained as in this truth.
func (t truth) weather() []int {
	var list []int
	for time, s := range t.times() {
		if time == t.end() {
			break
		}
		set := t.Weather[time]
		place := slices.Index(t.gainsIn(s, time).in(set), t.gain(s, time))
		list = append(list, weathersOf(set)[place])
	}
	n := len(list)
	return list[:n:n]
}
