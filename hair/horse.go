package hair

import "skewbald/api"

// horse is a horse in the calculation.
type horse struct{ api.HairHorse }

func (h horse) mane() int  { return h.Mane }
func (h horse) tail() int  { return h.Tail }
func (h horse) shade() int { return h.Shade }

// want is something that a horse wants, with the least and the most that it can be.
type want struct {
	of          func(h horse) int
	least, most int
}

// wants returns all that a horse wants: first its parts, as a plan has them.
func wants() []want {
	return []want{
		{horse.mane, 1, api.HairPart},
		{horse.tail, 1, api.HairPart},
		{horse.shade, 0, api.HairWanted},
	}
}

// parts is how many parts a horse has.
const parts = 2

// pair is the parts of a horse, by the hanks that they are cut from.
type pair struct{ horse, mane, tail int }

// steps are by how many steps both parts of a horse are dyed.
type steps struct{ mane, tail int }

// firstSteps returns the fewest steps of the mane with which parts match, with those the fewest of the tail, and whether there are some.
func firstSteps(dark int, match func(s steps) bool) (s steps, found bool) {
	for mane := range dark + 1 {
		for tail := range dark + 1 {
			if s = (steps{mane, tail}); match(s) {
				return s, true
			}
		}
	}
	return steps{}, false
}
