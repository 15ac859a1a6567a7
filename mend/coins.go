package mend

import (
	"slices"

	"skewbald/api"
)

// purse is how many of each coin are paid; there are none of a coin that a book does not have.
type purse [api.MendCoins]int

// with returns the purse with one more of a coin.
func (p purse) with(coin int) purse {
	p[coin]++
	return p
}

// isBetter reports whether a purse has fewer coins than another one, or as many, and comes before it.
func (p purse) isBetter(other purse) bool {
	if many, others := sum(p[:]...), sum(other[:]...); many != others {
		return many < others
	}
	return slices.Compare(p[:], other[:]) < 0
}

// pay returns the best purse for a sum. If a coin is taken out of the best purse, what is left is the best one for the rest of the sum: a better one, with this coin, would be a better one for the sum.
func pay(coins []int, pence int) []int {
	purses := []purse{{}}
	for due := 1; due <= pence; due++ {
		var best purse
		for n, coin := range coins {
			if coin > due {
				break
			}
			if p := purses[due-coin].with(n); best == (purse{}) || p.isBetter(best) {
				best = p
			}
		}
		purses = append(purses, best)
	}
	p := purses[pence]
	return handedOn(p[:len(coins)])
}
