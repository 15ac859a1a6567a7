package foreman

import (
	"slices"
	"strconv"
	"strings"

	"skewbald/api"
)

const (
	// hyphen stands for no numbers, or for one that is not told.
	hyphen = "-"
	// none is a number that is not told; no number of a line is below 0.
	none = api.MendNone
)

// The letters of a form that do not stand for a mere number.
const (
	nameLetter   = 'N'
	choiceLetter = 'C'
)

// line is a line that has the form: what it does, and what it tells.
type line struct {
	duty
	text, name string
	numbers    []int
}

// ensure fails with an error, which Do and Open recover, unless something is so.
func ensure(so bool, e api.Errno) {
	if !so {
		panic(e)
	}
}

// read returns a line; it fails unless the text has the form.
func read(text string) line {
	ensure(len(text) <= api.ForemanLine && !strings.Contains(text, lineEnd), api.ErrForemanLine)
	rest, isMore := text, true
	// A token that is missing is read as an empty one, which is wrong wherever it stands.
	next := func() (token string) {
		token, rest, isMore = strings.Cut(rest, " ")
		return token
	}
	d, isWord := dutiesByWord()[next()]
	ensure(isWord, api.ErrForemanLine)
	l := line{duty: d, text: text}
tokens:
	for i := range len(d.form) {
		token := next()
		if d.form[i] == nameLetter {
			ensure(token != "", api.ErrForemanLine)
			l.name = token
			continue tokens
		}
		l.numbers = append(l.numbers, number(token, d.form[i] == choiceLetter))
	}
	ensure(!isMore, api.ErrForemanLine)
	return l
}

// number returns the number of a token, or none of a hyphen where there can be one; it fails with all other tokens.
func number(token string, canBeNone bool) int {
	if canBeNone && token == hyphen {
		return none
	}
	ensure(isNumber(token), api.ErrForemanLine)
	n, _ := strconv.Atoi(token)
	return n
}

// do does a line, and returns its answer; it fails with the first error.
func (s *state) do(l line) string {
	ensure(l.asks() || room{len(s.journal), api.ForemanJournal}.isLeft(), api.ErrFull)
	ensure(l.name == "" || slices.Contains(s.Names, l.name), api.ErrForemanUnknown)
	if l.asks() {
		return s.tell(l)
	}
	return s.change(l)
}

// tell returns the answer of a line that asks.
func (s *state) tell(l line) string {
	ensure(l.hasBook == nil || l.hasBook(s), api.ErrNone)
	numbers, e := l.answers(s, l)
	switch e {
	case api.OK:
		return answer(numbers...)
	case api.ErrPlankAsk, api.ErrMakerAsk, api.ErrHairAsk, api.ErrMendAsk:
		panic(api.ErrRange)
	default:
		panic(e)
	}
}

// change does a line that changes something, and adds it to the journal. Its book must leave something to answer.
func (s *state) change(l line) string {
	l.adds(s, l)
	numbers, e := l.answers(s, l)
	ensure(e == api.OK && len(numbers) > 0, api.ErrForemanFalse)
	s.journal = with(s.journal, strings.Clone(l.text))
	return answer(numbers...)
}
