package maker

import "skewbald/api"

// validBook reports whether a book is valid.
func validBook(b api.MakerBook) bool {
	if !within(len(b.Makers), 1, api.MakerMany) || !within(kindsOf(b), 1, api.MakerKinds) || len(b.Seen) > api.MakerSeen {
		return false
	}
	for _, marks := range b.Makers {
		if !validMaker(b, marks) {
			return false
		}
	}
	for _, m := range b.Seen {
		if !hasKind(b, m.Kind) || !isValues(m.Values) {
			return false
		}
	}
	return within(b.Repairs, 0, kindsOf(b)) && within(b.Fixed, 0, 1<<kindsOf(b)-1)
}

// validMaker reports whether a maker has some values of each kind.
func validMaker(b api.MakerBook, marks []int) bool {
	if len(marks) != kindsOf(b) {
		return false
	}
	for _, values := range marks {
		if !isValues(values) {
			return false
		}
	}
	return true
}

// isValues reports whether a number is a set of one value at least.
func isValues(n int) bool { return within(n, 1, everyValue) }

// kindsOf returns how many kinds a book has: none if there is no maker to tell it, so that wrong books can be asked, too.
func kindsOf(b api.MakerBook) int {
	if len(b.Makers) == 0 {
		return 0
	}
	return len(b.Makers[0])
}

// hasMaker reports whether a maker is one of a book.
func hasMaker(b api.MakerBook, maker int) bool { return within(maker, 0, len(b.Makers)-1) }

// hasKind reports whether a kind is one of a book.
func hasKind(b api.MakerBook, kind int) bool { return within(kind, 0, kindsOf(b)-1) }

// within reports whether n is from low to high.
func within(n, low, high int) bool {
	return low <= n && n <= high
}
