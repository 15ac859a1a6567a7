package harness

import (
	"skewbald/api"
	"skewbald/hair"
)

// validBook reports whether a book is valid.
func validBook(b api.HarnessBook) bool {
	if hair.Check(b.Hair) != api.OK || !validStock(b.Stock) || len(b.Needs) != len(b.Hair.Horses) {
		return false
	}
	for _, needs := range b.Needs {
		if !validNeeds(needs, len(b.Stock)) {
			return false
		}
	}
	return within(b.Pack, 1, api.HarnessPack) && within(b.Bad, 0, b.Pack-1)
}

// validStock reports whether there is a kind, and not too many, and of each it is known well enough how many pieces are at hand.
func validStock(stock []api.Span) bool {
	for _, s := range stock {
		if !within(s.Low, 0, api.HarnessStock) || !within(s.High, s.Low, min(s.Low+api.HarnessWide, api.HarnessStock)) {
			return false
		}
	}
	return within(len(stock), 1, api.HarnessKinds)
}

// validNeeds reports whether a horse needs a number of pieces of each kind, and no more than it can.
func validNeeds(needs []int, kinds int) bool {
	for _, n := range needs {
		if !within(n, 0, api.HarnessNeed) {
			return false
		}
	}
	return len(needs) == kinds
}

// hasKind reports whether a kind is one of a book.
func hasKind(b api.HarnessBook, kind int) bool { return within(kind, 0, len(b.Stock)-1) }

// within reports whether n is from low to high.
func within(n, low, high int) bool {
	return low <= n && n <= high
}
