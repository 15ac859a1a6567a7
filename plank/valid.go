package plank

import "skewbald/api"

// validBook reports whether a book is valid.
func validBook(b api.PlankBook) bool {
	if !within(len(b.Planks), 1, api.PlankMany) || !within(len(b.Parts), 1, api.PlankParts) {
		return false
	}
	for _, w := range b.Planks {
		if !validWood(w) {
			return false
		}
	}
	for _, s := range b.Parts {
		if !validShape(s) {
			return false
		}
	}
	return true
}

func validWood(w api.PlankWood) bool {
	if !within(w.Long, 1, api.PlankLong) || len(w.Knots) > api.PlankKnots {
		return false
	}
	for _, k := range w.Knots {
		// Both ends are on the plank before they are subtracted, so that the difference cannot overflow.
		if !within(k.Low, 0, w.Long-1) || !within(k.High, k.Low, w.Long-1) || k.High-k.Low > api.PlankWide {
			return false
		}
	}
	return true
}

func validShape(s api.PlankShape) bool {
	if !within(s.Long, 1, api.PlankPart) || len(s.Joints) > api.PlankJoints {
		return false
	}
	for _, j := range s.Joints {
		if !within(j, 0, s.Long-1) {
			return false
		}
	}
	return increasing(s.Joints)
}

// within reports whether n is from low to high.
func within(n, low, high int) bool {
	return low <= n && n <= high
}

// increasing reports whether a list is strictly increasing.
func increasing(list []int) bool {
	for i := 1; i < len(list); i++ {
		if list[i] <= list[i-1] {
			return false
		}
	}
	return true
}
