package mend

import (
	"slices"

	"skewbald/api"
)

// job is a job in the calculation.
type job struct{ api.MendJob }

// whole returns all of a cost.
func (j job) whole(cost int) int { return cost }

// paid returns what the customer pays of a cost.
func (j job) paid(cost int) int {
	if j.Cap == api.MendNone {
		return cost
	}
	return min(cost, j.Cap)
}

// lost returns what the shop loses of a cost.
func (j job) lost(cost int) int { return cost - j.paid(cost) }

// Shares of a cost are known by number.
const (
	whole = iota
	paid
	lost
)

// share tells how much of what a job costs a share is.
type share struct {
	of func(j job, cost int) int
}

// shares returns all shares.
func shares() []share {
	return []share{
		whole: {job.whole},
		paid:  {job.paid},
		lost:  {job.lost},
	}
}

// end is an end of spans: which number of a span it is, and which one of several numbers lies outmost there.
type end struct {
	of    func(s api.Span) int
	among func(numbers []int) int
}

// lowest returns the end at which the least numbers are.
func lowest() end { return end{func(s api.Span) int { return s.Low }, slices.Min[[]int]} }

// highest returns the end at which the greatest numbers are.
func highest() end { return end{func(s api.Span) int { return s.High }, slices.Max[[]int]} }

// sum returns the sum of several numbers.
func sum[N ~int](numbers ...N) (all N) {
	for _, n := range numbers {
		all += n
	}
	return all
}

// handedOn returns a list with no room behind it.
func handedOn[T any](list []T) []T {
	n := len(list)
	return list[:n:n]
}
