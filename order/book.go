package order

import (
	"slices"

	"skewbald/api"
	"skewbald/bench"
	"skewbald/coat"
)

// book is a valid book in the calculation, with the parts that are cut, increasing, and with what was found out of horses that are ready at a time: whether they surely are done in time.
type book struct {
	api.OrderBook
	cut    []int
	inTime map[ready]bool
}

// bookOf returns a valid book with the parts that truly are cut. (The Bench of a valid book has no error.)
func bookOf(b api.OrderBook) *book {
	cut, _ := bench.Cut(b.Bench)
	b.Bench = quick(b.Bench, cut)
	return &book{b, cut, map[ready]bool{}}
}

// quick returns a bench with planks from which the same parts are cut: all that are an inch long, and none that are longer than the only plank. Each order asks the bench anew, and which parts can be cut from other planks takes long to find.
func quick(b api.BenchBook, cut []int) api.BenchBook {
	parts := slices.Repeat([]api.PlankShape{{Long: api.PlankPart}}, len(b.Legs))
	for _, part := range cut {
		parts[part].Long = 1
	}
	b.Plank = api.PlankBook{Planks: []api.PlankWood{{Long: api.PlankParts}}, Parts: parts}
	return b
}

// end returns the time at which no hour is left.
func (b *book) end() int { return endOf(b.OrderBook) }

// horses returns all horses, increasing, of which something is so.
func (b *book) horses(so func(horse int) bool) []int {
	var list []int
	for horse := range b.Horses {
		if so(horse) {
			list = append(list, horse)
		}
	}
	return handedOn(list)
}

// ready is a horse, and the time at which it is ready for its coats.
type ready struct{ horse, time int }

// neverReady is a horse that is not ready at any time.
func neverReady(horse int) ready { return ready{horse, -1} }

// How sure it can be that a horse is done.
const (
	perhaps = iota
	surely
)

// answers tells the least answer of coat.Can with which it is so sure.
var answers = [2]int{perhaps: 1, surely: 2}

// certainties returns what asks how sure it is.
func certainties() [2]func(b *book, r ready, time int) bool {
	return [2]func(b *book, r ready, time int) bool{perhaps: (*book).isPerhapsDone, surely: (*book).isSurelyDone}
}

// isPerhapsDone reports whether a horse is done at a time, or before it, in some truth.
func (b *book) isPerhapsDone(r ready, time int) bool { return b.answer(r, time) >= answers[perhaps] }

// isSurelyDone reports whether a horse is done at a time, or before it, in each truth.
func (b *book) isSurelyDone(r ready, time int) bool { return b.answer(r, time) >= answers[surely] }

// answer returns the answer of coat.Can for the last coat of a horse. If the horse is not ready before the end, its time is no hour to begin in: this is an error there, with an answer of 0.
func (b *book) answer(r ready, time int) int {
	c := b.Coat
	c.Start = r.time
	answer, _ := coat.Can(c, len(c.Coats)-1, time)
	return answer
}

// isInTime reports whether a horse surely is done in time.
func (b *book) isInTime(r ready) bool {
	is, isKnown := b.inTime[r]
	if !isKnown {
		is = b.isSurelyDone(r, b.Horses[r.horse].Due)
		b.inTime[r] = is
	}
	return is
}

// latest returns the latest time before the end such that a horse that is ready then surely is done in time, and whether there is one.
func (b *book) latest(horse int) (latest int, found bool) {
	for time := range b.end() {
		if b.isInTime(ready{horse, time}) {
			latest, found = time, true
		}
	}
	return latest, found
}

// done returns the time at which a horse is done, at least and at most; ErrNone if it need not be done.
func (b *book) done(r ready) (api.Span, api.Errno) {
	low, _ := b.earliest(r, perhaps)
	high, found := b.earliest(r, surely)
	if !found {
		return api.Span{}, api.ErrNone
	}
	return api.Span{Low: low, High: high}, api.OK
}

// earliest returns the first time at which it is so sure that a horse is done, and whether there is one.
func (b *book) earliest(r ready, how int) (time int, found bool) {
	isDone := certainties()[how]
	for time := range b.end() + 1 {
		if isDone(b, r, time) {
			return time, true
		}
	}
	return 0, false
}
