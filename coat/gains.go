package coat

import (
	"cmp"
	"slices"

	"skewbald/api"
)

// weathers has all weathers, in their order.
var weathers = [3]int{api.CoatDry, api.CoatFair, api.CoatDamp}

// weathersOf returns the weathers of a set, in their order.
func weathersOf(set int) []int {
	var list []int
	for _, w := range weathers {
		if set>>w&1 == 1 {
			list = append(list, w)
		}
	}
	return list
}

// gains is what is gained in an hour of each weather.
type gains [3]int

// in returns what is gained in each weather of a set.
func (g gains) in(set int) []int {
	list := weathersOf(set)
	for i, w := range list {
		list[i] = g[w]
	}
	return list
}

// most returns the most that is gained in a weather of a set.
func (g gains) most(set int) int { return slices.Max(g.in(set)) }

// fewest returns the least that is gained in a weather of a set.
func (g gains) fewest(set int) int { return least(api.CoatGain, g.in(set)...) }

// The ends between which all truths lie.
const (
	best = iota
	worst
)

// ends returns what is gained in an hour at each end.
func ends() [2]func(g gains, set int) int {
	return [2]func(g gains, set int) int{best: gains.most, worst: gains.fewest}
}

// least returns the least of several numbers.
func least[N cmp.Ordered](first N, others ...N) N {
	for _, n := range others {
		first = min(first, n)
	}
	return first
}
