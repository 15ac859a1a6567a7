package dapple_test

// The reference goes through all truths of two horses, all turns and all rows one by one, straight from the definitions, and so finds what package dapple must return.

import (
	"math/rand/v2"
	"slices"

	"skewbald/api"
)

// sizes returns all sizes of a set.
func sizes(set int) []int {
	var all []int
	for n := range api.DappleSizes {
		if set>>n&1 == 1 {
			all = append(all, n)
		}
	}
	return all
}

// choices returns each list that has one number out of each of several lists, the first one first.
func choices(lists [][]int) [][]int {
	all := [][]int{nil}
	for _, list := range lists {
		var longer [][]int
		for _, chosen := range all {
			for _, n := range list {
				longer = append(longer, append(slices.Clone(chosen), n))
			}
		}
		all = longer
	}
	return all
}

// rows returns all rows that a horse can have, the first one first.
func rows(sets []int) [][]int {
	var lists [][]int
	for _, set := range sets {
		lists = append(lists, sizes(set))
	}
	return choices(lists)
}

// isSame reports whether a row is the same as another one in a turn.
func isSame(one, other []int, turn int) bool {
	for place, size := range other {
		if one[(place+turn)%len(one)] != size {
			return false
		}
	}
	return true
}

// isSameInATurn reports whether there is a turn in which a row is the same as another one.
func isSameInATurn(one, other []int) bool {
	for turn := range one {
		if isSame(one, other, turn) {
			return true
		}
	}
	return false
}

// turns, same, whose, free, drop and look are the references of the functions of these names, but that New is called free. They ask of the one with the lesser number whether it is the same as the other one; turns does so of the one that is named first.
func turns(b api.DappleBook, one, other int) []int {
	var all []int
	for turn := range b.Round {
		if isInSomeTruth(b, one, other, func(r, s []int) bool { return isSame(r, s, turn) }) {
			all = append(all, turn)
		}
	}
	return all
}

// isInSomeTruth reports whether in some truth the rows of two horses are so to each other.
func isInSomeTruth(b api.DappleBook, one, other int, are func(r, s []int) bool) bool {
	theirs := rows(b.Horses[other])
	for _, r := range rows(b.Horses[one]) {
		for _, s := range theirs {
			if are(r, s) {
				return true
			}
		}
	}
	return false
}

func same(b api.DappleBook, one, other int) int {
	one, other = min(one, other), max(one, other)
	differ := func(r, s []int) bool { return !isSameInATurn(r, s) }
	switch {
	case !isInSomeTruth(b, one, other, isSameInATurn):
		return 0
	case isInSomeTruth(b, one, other, differ):
		return 1
	}
	return 2
}

// pairs returns all pairs of horses, the lesser number first, in their order, that are so much the same, or more.
func pairs(b api.DappleBook, least int) [][]int {
	var all [][]int
	for one := range b.Horses {
		for other := range b.Horses {
			if one < other && same(b, one, other) >= least {
				all = append(all, []int{one, other})
			}
		}
	}
	return all
}

func whose(b api.DappleBook, row []int) []int {
	var all []int
	for horse, sets := range b.Horses {
		is := func(r []int) bool { return isSameInATurn(r, row) }
		if slices.ContainsFunc(rows(sets), is) {
			all = append(all, horse)
		}
	}
	return all
}

func free(b api.DappleBook) []int {
	for _, row := range rows(all(open, b.Round)) {
		if len(whose(b, row)) == 0 {
			return row
		}
	}
	return nil
}

// without returns a book without some horses.
func without(b api.DappleBook, out []int) api.DappleBook {
	c := book(b.Round)
	for horse, sets := range b.Horses {
		if !slices.Contains(out, horse) {
			c.Horses = append(c.Horses, sets)
		}
	}
	return c
}

// sublists returns all strictly increasing lists of the numbers below n, the shorter ones first, and of those that are as long the first one.
func sublists(n int) [][]int {
	var all [][]int
	for set := range 1 << n {
		var list []int
		for i := range n {
			if set>>i&1 == 1 {
				list = append(list, i)
			}
		}
		all = append(all, list)
	}
	slices.SortFunc(all, func(l, m []int) int {
		if len(l) != len(m) {
			return len(l) - len(m)
		}
		return slices.Compare(l, m)
	})
	return all
}

func drop(b api.DappleBook) []int {
	can := pairs(b, 1)
	for _, list := range sublists(len(b.Horses)) {
		isLeft := func(pair []int) bool { return !slices.Contains(list, pair[0]) && !slices.Contains(list, pair[1]) }
		if !slices.ContainsFunc(can, isLeft) {
			return list
		}
	}
	return nil
}

// knowing returns a book in which the size at a place of a horse is known.
func knowing(b api.DappleBook, horse, place, size int) api.DappleBook {
	return changed(b, func(b *api.DappleBook) { b.Horses[horse][place] = or(size) })
}

// openPlaces returns the horse and the place of each dapple whose size is not known, in their order.
func openPlaces(b api.DappleBook) [][]int {
	var places [][]int
	for horse, sets := range b.Horses {
		for place, set := range sets {
			if len(sizes(set)) > 1 {
				places = append(places, []int{horse, place})
			}
		}
	}
	return places
}

// dapples returns the places of openPlaces, and how many pairs can be the same for each size that each of them can have.
func dapples(b api.DappleBook) (places [][]int, counts [][]int) {
	places = openPlaces(b)
	for _, p := range places {
		var many []int
		for _, size := range sizes(b.Horses[p[0]][p[1]]) {
			many = append(many, len(pairs(knowing(b, p[0], p[1], size), 1)))
		}
		counts = append(counts, many)
	}
	return places, counts
}

func look(b api.DappleBook) []int {
	places, counts := dapples(b)
	var best []int
	least := 0
	for i, many := range counts {
		if n := slices.Max(many); best == nil || n < least {
			best, least = places[i], n
		}
	}
	return best
}

// clone returns a copy of a book that shares no memory with it.
func clone(b api.DappleBook) api.DappleBook {
	b.Horses = slices.Clone(b.Horses)
	for i, sets := range b.Horses {
		b.Horses[i] = slices.Clone(sets)
	}
	return b
}

// books returns valid books of at most so many places, and in which each horse has at most so many rows, always the same ones.
func books(seed uint64, many, places, most int) []api.DappleBook {
	r := rand.New(rand.NewPCG(seed, 7))
	var all []api.DappleBook
	for len(all) < many {
		b := anyBook(r, 1+r.IntN(places), 1+r.IntN(api.DappleHorses))
		if !slices.ContainsFunc(b.Horses, func(sets []int) bool { return len(rows(sets)) > most }) {
			all = append(all, b)
		}
	}
	return all
}

// wideBooks returns valid books of any number of places, and of several horses, always the same ones.
func wideBooks(seed uint64, many int) []api.DappleBook {
	r := rand.New(rand.NewPCG(seed, 8))
	var all []api.DappleBook
	for range many {
		all = append(all, anyBook(r, 1+r.IntN(api.DappleRound), 2+r.IntN(api.DappleHorses-1)))
	}
	return all
}

// anyBook returns a book some of whose horses are like those before them, in some turn.
func anyBook(r *rand.Rand, round, horses int) api.DappleBook {
	b := book(round)
	most := 1 + r.IntN(api.DappleSizes)
	unknown := r.IntN(4)
	for horse := range horses {
		sets := make([]int, round)
		for place := range sets {
			sets[place] = or(r.IntN(most))
		}
		if horse > 0 && r.IntN(3) > 0 {
			sets = turned(b.Horses[r.IntN(horse)], r.IntN(round))
		}
		for place := range sets {
			if r.IntN(2+round) < unknown {
				sets[place] = 1 + r.IntN(open)
			}
		}
		b.Horses = append(b.Horses, sets)
	}
	return b
}

// turned returns a list that is read from another place on.
func turned(list []int, turn int) []int {
	return slices.Concat(list[turn:], list[:turn])
}

// anyTruth returns a row for each horse.
func anyTruth(r *rand.Rand, b api.DappleBook) [][]int {
	var all [][]int
	for _, sets := range b.Horses {
		var row []int
		for _, set := range sets {
			l := sizes(set)
			row = append(row, l[r.IntN(len(l))])
		}
		all = append(all, row)
	}
	return all
}
