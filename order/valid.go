package order

import (
	"skewbald/api"
	"skewbald/bench"
	"skewbald/coat"
)

// validBook reports whether a book is valid.
func validBook(b api.OrderBook) bool {
	if bench.Check(b.Bench) != api.OK || coat.Check(b.Coat) != api.OK {
		return false
	}
	return within(b.Each, 1, api.OrderEach) && within(len(b.Horses), 1, api.OrderHorses) && validHorses(b)
}

// validHorses reports whether all horses are valid, and none of them needs a leg of another one.
func validHorses(b api.OrderBook) bool {
	isTaken := map[int]bool{}
	for _, h := range b.Horses {
		if !validHorse(b, h) {
			return false
		}
		for _, leg := range h.Legs {
			if isTaken[leg] {
				return false
			}
			isTaken[leg] = true
		}
	}
	return true
}

// validHorse reports whether a horse is valid by itself.
func validHorse(b api.OrderBook, h api.OrderHorse) bool {
	if len(h.Legs) == 0 || !within(h.Due, 0, endOf(b)) {
		return false
	}
	least := 0
	for _, leg := range h.Legs {
		if !within(leg, least, len(b.Bench.Plank.Parts)-1) {
			return false
		}
		least = leg + 1
	}
	return true
}

// isOrder reports whether a list is an order of a bench that keeps even.
func isOrder(b api.BenchBook, list []int) bool {
	_, e := bench.First(b, list)
	return e == api.ErrNone
}

// hasHorse reports whether a horse is one of a book.
func hasHorse(b api.OrderBook, horse int) bool { return within(horse, 0, len(b.Horses)-1) }

// endOf returns the end of a book's Coat.
func endOf(b api.OrderBook) int { return len(b.Coat.Weather) }

// within reports whether n is from low to high.
func within(n, low, high int) bool {
	return low <= n && n <= high
}
