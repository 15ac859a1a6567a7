package dapple

import (
	"slices"

	"skewbald/api"
)

// validBook reports whether a book is valid.
func validBook(b api.DappleBook) bool {
	isWrong := func(horse []int) bool { return !validHorse(b, horse) }
	return within(b.Round, 1, api.DappleRound) && within(len(b.Horses), 1, api.DappleHorses) && !slices.ContainsFunc(b.Horses, isWrong)
}

// validHorse reports whether a horse has a set of sizes for each place.
func validHorse(b api.DappleBook, horse []int) bool {
	isWrong := func(n int) bool { return !within(n, 1, 1<<api.DappleSizes-1) }
	return len(horse) == b.Round && !slices.ContainsFunc(horse, isWrong)
}

// hasHorse reports whether a horse is one of a book.
func hasHorse(b api.DappleBook, horse int) bool { return within(horse, 0, len(b.Horses)-1) }

// hasPair reports whether two horses are different ones of a book.
func hasPair(b api.DappleBook, one, other int) bool {
	return hasHorse(b, one) && hasHorse(b, other) && one != other
}

// isRow reports whether a list has a size for each place.
func isRow(b api.DappleBook, row []int) bool {
	isWrong := func(size int) bool { return !within(size, 0, api.DappleSizes-1) }
	return len(row) == b.Round && !slices.ContainsFunc(row, isWrong)
}

// within reports whether n is from low to high.
func within(n, low, high int) bool {
	return low <= n && n <= high
}
