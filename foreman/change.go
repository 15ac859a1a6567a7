package foreman

import (
	"skewbald/api"
	"skewbald/hair"
	"skewbald/maker"
	"skewbald/mend"
	"skewbald/plank"
)

// room is how many things there are, and how many there can be.
type room struct{ many, most int }

func (r room) isLeft() bool { return r.many < r.most }

// admit fails unless what is told is valid, and there is room for it. What is told is checked alone, in a book without all the others, since a full book is wrong with any one more.
func admit(isValid bool, hasRoom func() bool) {
	ensure(isValid, api.ErrRange)
	ensure(hasRoom(), api.ErrFull)
}

func (s *state) addPart(l line) {
	turns := l.numbers[1]
	p := api.PlankShape{Long: l.numbers[0], Joints: joints([api.PlankJoints]int(l.numbers[2:])), Turns: turns == 1}
	admit(turns <= 1 && plank.Check(s.plankBook(p)) == api.OK, room{len(s.parts), api.PlankParts}.isLeft)
	s.parts = with(s.parts, p)
}

// joints returns all joints that are told.
func joints(told [api.PlankJoints]int) []int {
	if told == [...]int{none, none, none} {
		return nil
	}
	var all []int
	for _, j := range told {
		if j != none {
			all = append(all, j)
		}
	}
	return all
}

func (s *state) addMark(l line) {
	m := api.MakerMark{Kind: l.numbers[0], Values: l.numbers[1]}
	admit(maker.Check(s.makerBook(m)) == api.OK, room{len(s.marks), api.MakerSeen}.isLeft)
	s.marks = with(s.marks, m)
}

func (s *state) addHorse(l line) {
	h := api.HairHorse{Mane: l.numbers[0], Tail: l.numbers[1], Shade: l.numbers[2]}
	admit(hair.Check(s.hairBook(h)) == api.OK, room{len(s.horses), api.HairHorses}.isLeft)
	s.horses = with(s.horses, h)
}

func (s *state) addJob(l line) {
	j := api.MendJob{
		Kind:  l.numbers[0],
		Hours: api.Span{Low: l.numbers[1], High: l.numbers[2]},
		Parts: api.Span{Low: l.numbers[3], High: l.numbers[4]},
		Cap:   l.numbers[5],
	}
	admit(mend.Check(s.mendBook(j)) == api.OK, room{len(s.jobs), api.MendJobs}.isLeft)
	s.jobs, s.payers = with(s.jobs, j), with(s.payers, s.customer(l.name))
}
