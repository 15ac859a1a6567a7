package hair

import "skewbald/api"

// dyed is hair of a hank, dyed by some steps.
type dyed struct{ hank, steps int }

// undyed returns the hair as it is bought.
func (d dyed) undyed() dyed { return dyed{hank: d.hank} }

// fitting is how the parts of a horse match by a book.
type fitting struct {
	*book
	pair
}

// match reports whether the parts match in each truth, dyed by some steps.
func (f fitting) match(s steps) bool {
	mane, tail := dyed{f.mane, s.mane}, dyed{f.tail, s.tail}
	wanted := f.Horses[f.horse].Shade
	return greatest(f.from(wanted, mane), f.from(wanted, tail)) <= f.Near && f.apart(mane, tail) <= f.Match
}

// from returns by how much hair can differ from a shade.
func (b *book) from(shade int, d dyed) int {
	s := b.shades[d]
	return greatest(s.High-shade, shade-s.Low)
}

// apart returns by how much hair can differ from other hair. Of one hank both are of the same shade, whichever it is, but for the steps.
func (b *book) apart(one, other dyed) int {
	if one.undyed() == other.undyed() {
		return greatest(one.steps-other.steps, other.steps-one.steps)
	}
	s, t := b.shades[one], b.shades[other]
	return greatest(s.High-t.Low, t.High-s.Low)
}

// shadesOf returns what is known of the shade of all hair of a book, dyed by some steps or by none.
func shadesOf(b api.HairBook) map[dyed]api.Span {
	all := map[dyed]api.Span{}
	for hank, h := range b.Hanks {
		for n := range b.Dark + 1 {
			all[dyed{hank, n}] = api.Span{Low: h.Shade.Low + n, High: h.Shade.High + n}
		}
	}
	return all
}
