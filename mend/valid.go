package mend

import (
	"slices"

	"skewbald/api"
	"skewbald/maker"
)

// validBook reports whether a book is valid.
func validBook(b api.MendBook) bool {
	if maker.Check(b.Maker) != api.OK || !within(len(b.Jobs), 1, api.MendJobs) || len(b.Extra) != len(b.Maker.Makers) {
		return false
	}
	isWrongJob := func(j api.MendJob) bool { return !validJob(b, j) }
	isWrongExtra := func(pence int) bool { return !within(pence, 0, api.MendExtra) }
	return !slices.ContainsFunc(b.Jobs, isWrongJob) && !slices.ContainsFunc(b.Extra, isWrongExtra) && within(b.Rate, 0, api.MendRate) && validCoins(b.Coins)
}

// validJob reports whether a job is valid. The book's Maker is.
func validJob(b api.MendBook, j api.MendJob) bool {
	return within(j.Kind, 0, kindsOf(b)-1) &&
		validSpan(j.Hours, api.MendHours, api.MendLong) &&
		validSpan(j.Parts, api.MendParts, api.MendWide) &&
		(j.Cap == api.MendNone || within(j.Cap, 0, api.MendCap))
}

// validSpan reports whether a span lies between 0 and an end, and its own two ends are no more than so far apart.
func validSpan(s api.Span, end, apart int) bool {
	return within(s.Low, 0, end) && within(s.High, s.Low, end) && s.High-s.Low <= apart
}

// validCoins reports whether coins are strictly increasing, the first one being a penny, so that each sum can be paid.
func validCoins(coins []int) bool {
	if !within(len(coins), 1, api.MendCoins) || coins[0] != 1 {
		return false
	}
	for i, coin := range coins[1:] {
		if !within(coin, coins[i]+1, api.MendCoin) {
			return false
		}
	}
	return true
}

// kindsOf returns how many kinds of marks a book has whose Maker is valid.
func kindsOf(b api.MendBook) int { return len(b.Maker.Makers[0]) }

// hasJob reports whether a job is one of a book.
func hasJob(b api.MendBook, job int) bool { return within(job, 0, len(b.Jobs)-1) }

// within reports whether n is from low to high.
func within(n, low, high int) bool {
	return low <= n && n <= high
}
