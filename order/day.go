package order

import (
	"cmp"

	"skewbald/api"
)

// cuts is at which time each part is cut. None is before the time 1, so that 0 stands for a part that is not cut.
type cuts [api.PlankParts]int

// day is a book, and when its parts are cut by an order.
type day struct {
	*book
	cuts cuts
}

// day returns the day of an order.
func (b *book) day(order []int) day {
	var c cuts
	for place := range len(order) {
		c[order[place]] = b.Each * (place + 1)
	}
	return day{b, c}
}

// ready returns a horse, and when it is ready on a day.
func (d day) ready(horse int) ready {
	var times []int
	for _, leg := range d.Horses[horse].Legs {
		if d.cuts[leg] == 0 {
			return neverReady(horse)
		}
		times = append(times, d.cuts[leg])
	}
	return ready{horse, greatest(0, times...)}
}

// serves reports whether a horse surely is done in time.
func (d day) serves(horse int) bool { return d.isInTime(d.ready(horse)) }

// served returns all horses, increasing, that surely are done in time.
func (d day) served() []int {
	if d.cuts == (cuts{}) {
		return nil
	}
	return d.horses(d.serves)
}

// greatest returns the greatest of several numbers.
func greatest[N cmp.Ordered](first N, others ...N) N {
	for _, n := range others {
		first = max(first, n)
	}
	return first
}
