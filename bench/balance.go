package bench

import (
	"cmp"

	"skewbald/api"
)

// The sides of a horse.
const (
	left = iota
	right
)

// steps tells by how much one more leg of each side changes a balance.
var steps = [2]int{left: 1, right: -1}

// sideOf returns on which side of a horse a leg is.
func sideOf(leg api.BenchLeg) int {
	if leg.Left {
		return left
	}
	return right
}

// balance is by how many the left legs at each bench are more than the right ones.
type balance [api.BenchMany]int

// withLeft returns the balance with one more left leg at a bench.
func (m balance) withLeft(bench int) balance {
	m[bench] += steps[left]
	return m
}

// withRight returns the balance with one more right leg at a bench.
func (m balance) withRight(bench int) balance {
	m[bench] += steps[right]
	return m
}

// deeds returns what a leg of each side does at its bench.
func deeds() [2]func(m balance, bench int) balance {
	return [2]func(m balance, bench int) balance{left: balance.withLeft, right: balance.withRight}
}

// beyond returns by how many more than a slack the legs at each bench differ.
func (m balance) beyond(slack int) balance {
	for bench, more := range m {
		m[bench] = greatest(0, more-slack, -more-slack)
	}
	return m
}

// greatest returns the greatest of several numbers.
func greatest[N cmp.Ordered](first N, others ...N) N {
	for _, n := range others {
		first = max(first, n)
	}
	return first
}
