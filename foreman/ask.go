package foreman

import (
	"skewbald/api"
	"skewbald/hair"
	"skewbald/maker"
	"skewbald/mend"
	"skewbald/plank"
)

// reply asks a book for what a line tells.
type reply func(s *state, l line) ([]int, api.Errno)

func (s *state) hasParts() bool { return len(s.parts) > 0 }

func (s *state) hasJobs() bool { return len(s.jobs) > 0 }

func (s *state) spots(l line) ([]int, api.Errno) {
	return plank.Spots(s.plankBook(s.parts...), l.numbers[0], l.numbers[1])
}

func (s *state) fewest(line) ([]int, api.Errno) { return plank.Fewest(s.plankBook(s.parts...)) }

func (s *state) most(line) ([]int, api.Errno) { return plank.Most(s.plankBook(s.parts...)) }

func (s *state) look(line) ([]int, api.Errno) { return pair(plank.Look(s.plankBook(s.parts...))) }

func (s *state) who(line) ([]int, api.Errno) { return maker.Who(s.makerBook(s.marks...)) }

func (s *state) needs(l line) ([]int, api.Errno) {
	return one(maker.Needs(s.makerBook(s.marks...), l.numbers[0]))
}

func (s *state) changed(l line) ([]int, api.Errno) {
	return one(maker.Changed(s.makerBook(s.marks...), l.numbers[0], l.numbers[1]))
}

func (s *state) values(l line) ([]int, api.Errno) {
	return maker.Values(s.makerBook(s.marks...), l.numbers[0])
}

func (s *state) seek(line) ([]int, api.Errno) { return one(maker.Look(s.makerBook(s.marks...))) }

func (s *state) best(line) ([]int, api.Errno) { return hair.Best(s.hairBook(s.horses...)) }

func (s *state) off(line) ([]int, api.Errno) { return ends(hair.Off(s.planned())) }

func (s *state) left(l line) ([]int, api.Errno) {
	b, plan := s.planned()
	return ends(hair.Left(b, plan, l.numbers[0]))
}

func (s *state) dye(l line) ([]int, api.Errno) {
	horse := l.numbers[0]
	ensure(horse < len(s.horses), api.ErrRange)
	b, plan := s.planned()
	return pair(hair.Dyes(b, horse, plan[2*horse], plan[2*horse+1]))
}

func (s *state) buy(l line) ([]int, api.Errno) {
	return one(hair.Buy(s.hairBook(s.horses...), l.numbers[0]))
}

func (s *state) cost(l line) ([]int, api.Errno) {
	return ends(mend.Job(s.mendBook(s.jobs...), l.numbers[0]))
}

// costOfLast asks what the job costs that was just told.
func (s *state) costOfLast(line) ([]int, api.Errno) {
	return ends(mend.Job(s.mendBook(s.jobs...), len(s.jobs)-1))
}

func (s *state) bill(line) ([]int, api.Errno) { return ends(mend.Bill(s.mendBook(s.jobs...))) }

func (s *state) loss(line) ([]int, api.Errno) { return ends(mend.Loss(s.mendBook(s.jobs...))) }

func (s *state) can(l line) ([]int, api.Errno) {
	return truth(mend.Can(s.mendBook(s.jobs...), l.numbers[0]))
}

func (s *state) made(l line) ([]int, api.Errno) {
	return mend.Whose(s.mendBook(s.jobs...), l.numbers[0])
}

func (s *state) dear(line) ([]int, api.Errno) { return one(mend.Dear(s.mendBook(s.jobs...))) }

func (s *state) raise(l line) ([]int, api.Errno) {
	return one(mend.Raise(s.mendBook(s.jobs...), l.numbers[0]))
}

func (s *state) pay(l line) ([]int, api.Errno) {
	return mend.Pay(s.mendBook(s.jobs...), l.numbers[0])
}

// jobsOf asks for the numbers of all jobs of a customer.
func (s *state) jobsOf(l line) ([]int, api.Errno) {
	asked := s.customer(l.name)
	var all []int
	for job, payer := range s.payers {
		if payer == asked {
			all = append(all, job)
		}
	}
	return all, api.OK
}
