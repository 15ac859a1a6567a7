package coat

import "skewbald/api"

// everyWeather is the set of all weathers.
const everyWeather = 1<<api.CoatDry | 1<<api.CoatFair | 1<<api.CoatDamp

// validBook reports whether a book is valid.
func validBook(b api.CoatBook) bool {
	if !within(len(b.Coats), 1, api.CoatMany) || !within(len(b.Weather), 1, api.CoatHours) {
		return false
	}
	for _, k := range b.Coats {
		if !validKind(k) {
			return false
		}
	}
	for _, set := range b.Weather {
		if !within(set, 1, everyWeather) {
			return false
		}
	}
	return validHands(b) && within(b.Start, 0, len(b.Weather)-1)
}

func validKind(k api.CoatKind) bool {
	for _, gain := range k.Gain {
		if !within(gain, 0, api.CoatGain) {
			return false
		}
	}
	return within(k.Need, 1, api.CoatNeed)
}

// validHands reports whether Hands has no hour that is none. The bits of a number below 0 never end.
func validHands(b api.CoatBook) bool {
	return b.Hands>>len(b.Weather) == 0
}

// hasCoat reports whether a coat is one of a book.
func hasCoat(b api.CoatBook, coat int) bool {
	return within(coat, 0, len(b.Coats)-1)
}

// hasTime reports whether a time is one of a book.
func hasTime(b api.CoatBook, time int) bool {
	return within(time, 0, len(b.Weather))
}

// within reports whether n is from low to high.
func within(n, low, high int) bool {
	return low <= n && n <= high
}
