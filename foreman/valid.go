package foreman

import (
	"slices"

	"skewbald/api"
	"skewbald/hair"
	"skewbald/maker"
	"skewbald/mend"
	"skewbald/plank"
)

// validSetup reports whether a setup is valid.
func validSetup(s api.ForemanSetup) bool {
	n := state{ForemanSetup: s}
	// Planks and bills are no book without a part and a job, so each gets one that is always valid.
	part, job := api.PlankShape{Long: 1}, api.MendJob{Cap: api.MendNone}
	return plank.Check(n.plankBook(part)) == api.OK &&
		maker.Check(n.makerBook()) == api.OK &&
		hair.Check(n.hairBook()) == api.OK &&
		mend.Check(n.mendBook(job)) == api.OK &&
		validNames(s.Names)
}

// validNames reports whether there are not too many names, all of them are names, and no two of them are the same.
func validNames(names []string) bool {
	if len(names) > api.ForemanNames {
		return false
	}
	for n, name := range names {
		if !isName(name) || slices.Contains(names[:n], name) {
			return false
		}
	}
	return true
}

// isName reports whether a text is a small letter, then small letters and digits, and not too long.
func isName(text string) bool {
	if text == "" || len(text) > api.MaxName || isDigit(text[0]) {
		return false
	}
	for i := range len(text) {
		if !isSmall(text[i]) && !isDigit(text[i]) {
			return false
		}
	}
	return true
}

// isNumber reports whether a token is a number with not too many digits, and no 0 in front of others.
func isNumber(token string) bool {
	if token == "" || len(token) > api.ForemanDigits || token[0] == '0' && len(token) > 1 {
		return false
	}
	for i := range len(token) {
		if !isDigit(token[i]) {
			return false
		}
	}
	return true
}

func isSmall(b byte) bool { return 'a' <= b && b <= 'z' }

func isDigit(b byte) bool { return '0' <= b && b <= '9' }
