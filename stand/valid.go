package stand

import "skewbald/api"

// validBook reports whether a book is valid.
func validBook(b api.StandBook) bool {
	if !validBase(b) || !validSeat(b) || !within(len(b.Parts), 1, api.StandParts) || len(b.Trials) > api.StandTrials {
		return false
	}
	for _, p := range b.Parts {
		if !validPart(p) {
			return false
		}
	}
	for _, t := range b.Trials {
		if !hasWeight(b, t.Weight) || !hasLean(b, t.Lean) {
			return false
		}
	}
	return true
}

// validBase checks what the horse stands on.
func validBase(b api.StandBook) bool {
	if !within(b.Front, 1, api.StandFoot) || !within(b.Back, 1, api.StandFoot) {
		return false
	}
	switch b.Kind {
	case api.StandFeet:
		return b.Radius == 0
	case api.StandBow:
		return within(b.Radius, 1, api.StandRadius)
	}
	return false
}

// validSeat checks what is said of all children.
func validSeat(b api.StandBook) bool {
	return isPlace(b.Along, b.High) && within(b.Lean, 0, api.StandLean) && within(b.Limit, 1, api.StandChild)
}

func validPart(p api.StandPart) bool {
	w := p.Weight
	// Both ends are weights before they are subtracted, so that the difference cannot overflow.
	if !within(w.Low, 1, api.StandHeavy) || !within(w.High, w.Low, api.StandHeavy) || w.High-w.Low > api.StandWide {
		return false
	}
	return isPlace(p.Along, p.High)
}

// isPlace reports whether something can be so far along the horse, and so high.
func isPlace(along, high int) bool {
	return within(along, -api.StandAlong, api.StandAlong) && within(high, 0, api.StandHigh)
}

// hasWeight reports whether a child of a book can have a weight.
func hasWeight(b api.StandBook, weight int) bool {
	return within(weight, 1, b.Limit)
}

// hasLean reports whether a lean is one of a book.
func hasLean(b api.StandBook, lean int) bool {
	return within(lean, -b.Lean, b.Lean)
}

// within reports whether n is from low to high.
func within(n, low, high int) bool {
	return low <= n && n <= high
}
