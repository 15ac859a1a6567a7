package mend

import (
	"slices"

	"skewbald/api"
)

// book is a valid book in the calculation, of a horse that is somebody's, with what is known of it: all truths, those with the first maker first.
type book struct {
	api.MendBook
	known []truth
}

// bookOf returns a book with its truths, if some makers are possible. Of those that differ by kinds alone that no job is of it has one: each job costs the same in all of them.
func bookOf(b api.MendBook, makers []int) *book {
	c := &book{MendBook: b}
	isKnown := map[truth]bool{}
	for _, maker := range makers {
		for t := range (work{c, maker}).truths() {
			t.changed &= c.mended()
			if !isKnown[t] {
				isKnown[t] = true
				c.known = append(c.known, t)
			}
		}
	}
	return c
}

// kinds returns how many kinds there are.
func (b *book) kinds() int { return kindsOf(b.MendBook) }

// mended returns all kinds that jobs are of.
func (b *book) mended() (all set) {
	for _, j := range b.Jobs {
		all = all.with(j.Kind)
	}
	return all
}

// job returns a job in the calculation.
func (b *book) job(n int) job { return job{b.Jobs[n]} }

// jobs returns all jobs in the calculation.
func (b *book) jobs() []job {
	var all []job
	for n := range b.Jobs {
		all = append(all, b.job(n))
	}
	return handedOn(all)
}

// cost returns what a job costs in a truth if it takes so many hours, and its parts cost so much.
func (b *book) cost(t truth, j job, hours, parts int) int {
	extra := b.Extra[t.maker]
	if t.changed.has(j.Kind) {
		extra = 0
	}
	return sum(hours*b.Rate, parts, extra)
}

// span returns what a share of some jobs is at least and at most.
func (b *book) span(which int, jobs ...job) api.Span {
	s := shares()[which]
	return api.Span{Low: b.outmost(lowest(), s, jobs), High: b.outmost(highest(), s, jobs)}
}

// outmost returns a share of some jobs in the truth in which it lies outmost at an end. If a job costs more no share is less, so that hours and parts are at this end, too.
func (b *book) outmost(e end, s share, jobs []job) int {
	var sums []int
	for _, t := range b.known {
		var each []int
		for _, j := range jobs {
			each = append(each, s.of(j, b.cost(t, j, e.of(j.Hours), e.of(j.Parts))))
		}
		sums = append(sums, sum(each...))
	}
	return e.among(sums)
}

// dear returns the first job of which the most is lost at most, and whether something is lost of any.
func (b *book) dear() (dear int, found bool) {
	most := 0
	for n, j := range b.jobs() {
		if high := b.span(lost, j).High; high > most {
			dear, most = n, high
		}
	}
	return dear, most > 0
}

// whose returns all makers, increasing, with whom the bill can be just so many pence.
func (b *book) whose(pence int) []int {
	var makers []int
	for _, t := range b.known {
		if !slices.Contains(makers, t.maker) && b.canPay(t, pence) {
			makers = append(makers, t.maker)
		}
	}
	return handedOn(makers)
}

// canPay reports whether the bill can be just so many pence in a truth. Parts can cost each number between two ends; with the same hours the bill can be each number between two ends, too.
func (b *book) canPay(t truth, pence int) bool {
	var add func(jobs []job, low, high int) bool
	add = func(jobs []job, low, high int) bool {
		if len(jobs) == 0 {
			return within(pence, low, high)
		}
		j := jobs[0]
		for more := range j.Hours.High - j.Hours.Low + 1 {
			hours := j.Hours.Low + more
			least, most := b.cost(t, j, hours, j.Parts.Low), b.cost(t, j, hours, j.Parts.High)
			if add(jobs[1:], low+j.paid(least), high+j.paid(most)) {
				return true
			}
		}
		return false
	}
	return add(b.jobs(), 0, 0)
}
