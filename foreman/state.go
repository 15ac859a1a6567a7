package foreman

import (
	"slices"
	"strings"

	"skewbald/api"
	"skewbald/hair"
)

// state is all that a foreman keeps.
type state struct {
	api.ForemanSetup
	parts  []api.PlankShape
	marks  []api.MakerMark
	horses []api.HairHorse
	jobs   []api.MendJob
	// payers are the customers of the jobs, in the order of these.
	payers  []customer
	journal []string
}

// customer is the name and the number of a customer.
type customer struct {
	name   string
	number int
}

// customer returns the customer of a name that is one of Names.
func (s *state) customer(name string) customer {
	return customer{name, slices.Index(s.Names, name)}
}

// plankBook returns the book of layer 1 with some parts.
func (s *state) plankBook(parts ...api.PlankShape) api.PlankBook {
	return api.PlankBook{Planks: handedOn(s.Planks), Parts: handedOn(parts)}
}

// makerBook returns the book of layer 5 with some marks.
func (s *state) makerBook(marks ...api.MakerMark) api.MakerBook {
	return api.MakerBook{Makers: handedOn(s.Makers), Seen: handedOn(marks), Repairs: s.Repairs, Fixed: s.Fixed}
}

// hairBook returns the book of layer 6 with some horses.
func (s *state) hairBook(horses ...api.HairHorse) api.HairBook {
	return api.HairBook{Hanks: handedOn(s.Hanks), Horses: handedOn(horses), Dark: s.Dark, Near: s.Near, Match: s.Match}
}

// mendBook returns the book of layer 8 with some jobs.
func (s *state) mendBook(jobs ...api.MendJob) api.MendBook {
	return api.MendBook{Maker: s.makerBook(s.marks...), Jobs: handedOn(jobs), Rate: s.Rate, Extra: handedOn(s.Extra), Coins: handedOn(s.Coins)}
}

// planned returns the book of layer 6, and the plan. There always is one: no horse is let in without.
func (s *state) planned() (api.HairBook, []int) {
	b := s.hairBook(s.horses...)
	plan, _ := hair.Best(b)
	return b, plan
}

// copyOfSetup returns a setup that shares nothing with the one that is copied.
func copyOfSetup(s api.ForemanSetup) api.ForemanSetup {
	s.Planks = each(s.Planks, copyOfPlank)
	s.Makers = each(s.Makers, slices.Clone)
	s.Hanks, s.Extra, s.Coins = slices.Clone(s.Hanks), slices.Clone(s.Extra), slices.Clone(s.Coins)
	s.Names = each(s.Names, strings.Clone)
	return s
}

func copyOfPlank(w api.PlankWood) api.PlankWood {
	w.Knots = slices.Clone(w.Knots)
	return w
}

func copyOfPart(p api.PlankShape) api.PlankShape {
	p.Joints = slices.Clone(p.Joints)
	return p
}
