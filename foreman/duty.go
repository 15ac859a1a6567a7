package foreman

// duty is what lines do that begin with a word.
type duty struct {
	word, form string
	// hasBook tells whether there is a book to be asked; it is nil where there always is one.
	hasBook func(s *state) bool
	// adds puts what is told into its book; it is nil of a line that asks.
	adds func(s *state, l line)
	// answers asks the book for which the line must leave something, if it adds something to it.
	answers reply
}

// asks reports whether lines ask, and change nothing.
func (d duty) asks() bool { return d.adds == nil }

// duties returns what all lines do.
func duties() []duty {
	return []duty{
		{word: "part", form: "LTCCC", adds: (*state).addPart, answers: (*state).fewest},
		{word: "mark", form: "KV", adds: (*state).addMark, answers: (*state).who},
		{word: "horse", form: "MTS", adds: (*state).addHorse, answers: (*state).best},
		{word: "job", form: "NKHIPQC", adds: (*state).addJob, answers: (*state).costOfLast},

		{word: "spots", form: "WP", hasBook: (*state).hasParts, answers: (*state).spots},
		{word: "fewest", hasBook: (*state).hasParts, answers: (*state).fewest},
		{word: "most", hasBook: (*state).hasParts, answers: (*state).most},
		{word: "look", hasBook: (*state).hasParts, answers: (*state).look},

		{word: "who", answers: (*state).who},
		{word: "needs", form: "M", answers: (*state).needs},
		{word: "changed", form: "MK", answers: (*state).changed},
		{word: "values", form: "K", answers: (*state).values},
		{word: "seek", answers: (*state).seek},

		{word: "best", answers: (*state).best},
		{word: "off", answers: (*state).off},
		{word: "left", form: "H", answers: (*state).left},
		{word: "dye", form: "R", answers: (*state).dye},
		{word: "buy", form: "S", answers: (*state).buy},

		{word: "cost", form: "J", hasBook: (*state).hasJobs, answers: (*state).cost},
		{word: "bill", hasBook: (*state).hasJobs, answers: (*state).bill},
		{word: "loss", hasBook: (*state).hasJobs, answers: (*state).loss},
		{word: "can", form: "P", hasBook: (*state).hasJobs, answers: (*state).can},
		{word: "made", form: "P", hasBook: (*state).hasJobs, answers: (*state).made},
		{word: "dear", hasBook: (*state).hasJobs, answers: (*state).dear},
		{word: "raise", form: "J", hasBook: (*state).hasJobs, answers: (*state).raise},
		{word: "pay", form: "P", hasBook: (*state).hasJobs, answers: (*state).pay},
		{word: "jobs", form: "N", answers: (*state).jobsOf},
	}
}

// dutiesByWord returns what all lines do, by their words.
func dutiesByWord() map[string]duty {
	all := duties()
	words := make(map[string]duty, len(all))
	for _, d := range all {
		words[d.word] = d
	}
	return words
}
