package stand

import (
	"cmp"

	"skewbald/api"
)

// reduced returns a fraction in lowest terms; its bottom is above 0.
func reduced(top, bottom int) api.StandRatio {
	d := divisor(top, bottom)
	return api.StandRatio{Top: top / d, Bottom: bottom / d}
}

// divisor returns the greatest number that divides two numbers, of which the second one is above 0.
func divisor(n, m int) int {
	n = max(n, -n)
	for n > 0 {
		n, m = m%n, n
	}
	return m
}

// lesser reports whether a fraction is less than another one; the bottoms of both are above 0.
func lesser(r, s api.StandRatio) bool {
	return r.Top*s.Bottom < s.Top*r.Bottom
}

// chooser keeps the first one of those fractions before which no other one comes.
type chooser struct {
	before func(r, s api.StandRatio) bool
	kept   api.StandRatio
	found  bool
}

func (c *chooser) offer(r api.StandRatio) {
	if !c.found || c.before(r, c.kept) {
		c.kept, c.found = r, true
	}
}

// least returns the least of several numbers.
func least[N cmp.Ordered](first N, others ...N) N {
	for _, n := range others {
		first = min(first, n)
	}
	return first
}
