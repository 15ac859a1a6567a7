package foreman_test

import (
	"maps"
	"math"
	"reflect"
	"slices"
	"strconv"
	"strings"
	"testing"

	"skewbald/api"
	"skewbald/foreman"
)

func to(low, high int) api.Span { return api.Span{Low: low, High: high} }

func just(n int) api.Span { return to(n, n) }

type change func(s *api.ForemanSetup)

// setup is the setup of the chapter's examples, changed.
func setup(changes ...change) api.ForemanSetup {
	s := api.ForemanSetup{
		Planks:  []api.PlankWood{{Long: 12, Knots: []api.Span{to(3, 4)}}, {Long: 8, Knots: []api.Span{just(6)}}},
		Makers:  [][]int{{1, 3, 4}, {2, 2, 4}, {1, 8, 3}},
		Repairs: 1,
		Fixed:   1,
		Hanks:   []api.HairHank{{Weight: to(10, 11), Shade: to(4, 5)}, {Weight: to(8, 9), Shade: just(6)}, {Weight: to(20, 22), Shade: just(3)}},
		Dark:    2,
		Near:    1,
		Match:   1,
		Rate:    4,
		Extra:   []int{3, 0, 7},
		Coins:   []int{1, 3, 12},
		Names:   []string{"anna", "bruno"},
	}
	for _, c := range changes {
		c(&s)
	}
	return s
}

func names(l ...string) change { return func(s *api.ForemanSetup) { s.Names = l } }

func planks(l ...api.PlankWood) change { return func(s *api.ForemanSetup) { s.Planks = l } }

func makers(l ...[]int) change { return func(s *api.ForemanSetup) { s.Makers = l } }

func hanks(l ...api.HairHank) change { return func(s *api.ForemanSetup) { s.Hanks = l } }

func extra(l ...int) change { return func(s *api.ForemanSetup) { s.Extra = l } }

func coins(l ...int) change { return func(s *api.ForemanSetup) { s.Coins = l } }

// said is a line, its answer, and its error.
type said struct {
	line, answer string
	e            api.Errno
}

// play lets a foreman do lines, one after the other.
func play(t *testing.T, f *foreman.Foreman, l ...said) {
	t.Helper()
	for i, x := range l {
		if a, e := f.Do(x.line); a != x.answer || e != x.e {
			t.Errorf("%d: %q: %q, %d", i, x.line, a, e)
		}
	}
}

// made returns a new foreman, which has done some lines.
func made(t *testing.T, s api.ForemanSetup, lines ...string) *foreman.Foreman {
	t.Helper()
	f, e := foreman.New(s)
	if e != api.OK || f == nil {
		t.Fatalf("New: %v, %d", f, e)
	}
	for _, l := range lines {
		if _, e := f.Do(l); e != api.OK {
			t.Fatalf("%q: %d", l, e)
		}
	}
	return f
}

// kept is all that a foreman tells of what it keeps.
type kept struct {
	parts   []api.PlankShape
	marks   []api.MakerMark
	horses  []api.HairHorse
	jobs    []api.MendJob
	journal []string
	file    string
}

func keptBy(f *foreman.Foreman) kept {
	return kept{f.Parts(), f.Marks(), f.Horses(), f.Jobs(), f.Journal(), f.File()}
}

// isNothing reports whether nothing is kept.
func (k kept) isNothing() bool {
	return len(k.parts)+len(k.marks)+len(k.horses)+len(k.jobs)+len(k.journal)+len(k.file) == 0
}

// P11.2: the chapter's examples.
func TestExamples(t *testing.T) {
	play(t, made(t, setup()), []said{
		{"part 5 0 0 4 -", "0", 0}, {"part 4 1 1 - -", "0", 0}, {"part 4 1 0 - -", "0 1", 0},
		{"part 9 0 - - -", "", api.ErrForemanFalse}, {"part 0 0 - - -", "", api.ErrRange}, {"part 4 0 2 1 -", "", api.ErrRange},
		{"spots 0 0", "1 2 5 6 7", 0}, {"fewest", "0 1", 0}, {"most", "0 1 2", 0}, {"look", "0 0", 0},
		{"mark 0 3", "0 1 2", 0}, {"mark 1 10", "0 1 2", 0}, {"mark 2 4", "0 1 2", 0}, {"mark 0 8", "", api.ErrForemanFalse},
		{"needs 2", "1", 0}, {"changed 2 2", "2", 0}, {"values 1", "1 3", 0}, {"seek", "0", 0},
		{"horse 6 4 6", "0 0", 0}, {"horse 5 3 7", "0 0 1 1", 0}, {"horse 30 30 7", "", api.ErrForemanFalse},
		{"off", "0 2", 0}, {"left 0", "0 1", 0}, {"dye 0", "1 1", 0}, {"dye 1", "0 0", 0}, {"buy 6", "0", 0},
		{"job anna 1 2 3 5 6 -", "13 25", 0}, {"job bruno 2 1 1 10 10 15", "14 17", 0}, {"job carl 0 0 0 0 0 -", "", api.ErrForemanUnknown},
		{"bill", "27 39", 0}, {"loss", "0 2", 0}, {"can 33", "1", 0}, {"can 37", "0", 0}, {"made 28", "0 1", 0}, {"made 37", "-", 0},
		{"dear", "1", 0}, {"raise 1", "2", 0}, {"pay 17", "2 1 1", 0}, {"jobs anna", "0", 0}, {"jobs bruno", "1", 0},
	}...)
}

// P11.2, P11.3: parts, and what is asked of planks.
func TestParts(t *testing.T) {
	long := planks(api.PlankWood{Long: 16}, api.PlankWood{Long: 16})
	f := made(t, setup(long))
	play(t, f, []said{
		// The ends of Long, and of joints.
		{"part 0 0 - - -", "", api.ErrRange}, {"part 13 0 - - -", "", api.ErrRange}, {"part 99999 0 - - -", "", api.ErrRange},
		{"part 4 0 4 - -", "", api.ErrRange}, {"part 4 0 3 4 -", "", api.ErrRange}, {"part 4 0 1 2 4", "", api.ErrRange}, {"part 4 0 99999 - -", "", api.ErrRange},
		// Joints that do not increase.
		{"part 4 0 1 1 -", "", api.ErrRange}, {"part 4 0 2 1 -", "", api.ErrRange}, {"part 4 0 0 0 0", "", api.ErrRange}, {"part 4 0 0 2 2", "", api.ErrRange}, {"part 4 0 0 2 1", "", api.ErrRange}, {"part 4 0 1 0 2", "", api.ErrRange},
		{"part 4 0 - 1 1", "", api.ErrRange}, {"part 4 0 - 1 0", "", api.ErrRange}, {"part 4 0 1 - 1", "", api.ErrRange}, {"part 4 0 3 - 2", "", api.ErrRange}, {"part 4 0 2 2 -", "", api.ErrRange},
		// T.
		{"part 4 2 - - -", "", api.ErrRange}, {"part 4 3 0 1 2", "", api.ErrRange}, {"part 4 10 - - -", "", api.ErrRange}, {"part 4 99999 - - -", "", api.ErrRange},
		{"part 12 1 0 5 11", "0", 0}, {"part 4 0 - 1 3", "0", 0}, {"part 5 1 2 - 4", "0 1", 0}, {"part 1 0 - - 0", "0 1", 0}, {"part 10 1 - - -", "0 1", 0},
	}...)
	want := []api.PlankShape{
		{Long: 12, Joints: []int{0, 5, 11}, Turns: true},
		{Long: 4, Joints: []int{1, 3}},
		{Long: 5, Joints: []int{2, 4}, Turns: true},
		{Long: 1, Joints: []int{0}},
		{Long: 10, Turns: true},
	}
	same := func(p, q api.PlankShape) bool {
		return p.Long == q.Long && p.Turns == q.Turns && slices.Equal(p.Joints, q.Joints)
	}
	if l := f.Parts(); !slices.EqualFunc(l, want, same) {
		t.Errorf("Parts: %v", l)
	}
	f = made(t, setup(long))
	play(t, f, said{"part 4 0 - - 2", "0", 0}, said{"part 4 0 - 2 -", "0", 0}, said{"part 4 0 2 - -", "0", 0})
	for i, p := range f.Parts() {
		if !slices.Equal(p.Joints, []int{2}) {
			t.Errorf("the joints of %d: %v", i, p.Joints)
		}
	}
	play(t, made(t, setup(), "part 8 0 - 5 -"), []said{
		{"spots 0 0", "0 1 2 3 4", 0}, {"spots 1 0", "0", 0}, {"spots 2 0", "", api.ErrRange}, {"spots 0 1", "", api.ErrRange}, {"spots 2 1", "", api.ErrRange}, {"spots 99999 0", "", api.ErrRange},
		{"part 12 0 3 - -", "", api.ErrForemanFalse}, {"fewest", "0", 0}, {"most", "0", 0},
		{"part 8 1 - - 6", "0 1", 0}, {"spots 0 1", "0 1 2 3 4", 0}, {"spots 1 1", "0", 0}, {"part 4 0 - - -", "0 1", 0}, {"part 1 0 - - -", "", api.ErrForemanFalse}, {"most", "0 1 2", 0},
	}...)
	// A part that is too long for a plank surely lies nowhere on it; without knots there is none to look for.
	play(t, made(t, setup(), "part 12 0 - - -"), said{"spots 0 0", "0", 0}, said{"spots 1 0", "-", 0})
	play(t, made(t, setup(long), "part 12 0 - - -"), said{"look", "", api.ErrNone}, said{"most", "0", 0})
	play(t, made(t, setup(planks(api.PlankWood{Long: 4}, api.PlankWood{Long: 6, Knots: []api.Span{just(0), to(1, 3)}})), "part 4 0 0 - -", "part 3 0 - - -"), said{"look", "1 0", 0}, said{"fewest", "0 1", 0})
}

// P11.2, P11.3: marks, and what is asked of makers.
func TestMarks(t *testing.T) {
	f := made(t, setup())
	play(t, f, []said{
		{"who", "0 1 2", 0}, {"values 0", "0 1", 0}, {"seek", "0", 0},
		{"needs 3", "", api.ErrRange}, {"needs 99999", "", api.ErrRange}, {"changed 0 3", "", api.ErrRange}, {"changed 3 0", "", api.ErrRange}, {"values 3", "", api.ErrRange},
		{"mark 3 1", "", api.ErrRange}, {"mark 0 0", "", api.ErrRange}, {"mark 0 32", "", api.ErrRange}, {"mark 99999 31", "", api.ErrRange}, {"mark 0 99999", "", api.ErrRange},
		// Nobody can have made it; and marks that contradict each other.
		{"mark 0 4", "", api.ErrForemanFalse}, {"mark 0 2", "1", 0}, {"mark 0 1", "", api.ErrForemanFalse}, {"mark 0 29", "", api.ErrForemanFalse},
		{"seek", "", api.ErrNone}, {"needs 0", "", api.ErrNone}, {"needs 1", "0", 0}, {"changed 0 0", "", api.ErrNone}, {"changed 1 0", "0", 0}, {"changed 1 1", "1", 0},
		{"mark 1 1", "1", 0}, {"changed 1 1", "2", 0}, {"changed 1 2", "0", 0}, {"mark 2 1", "", api.ErrForemanFalse}, {"mark 1 2", "", api.ErrForemanFalse}, {"mark 2 31", "1", 0}, {"values 2", "2", 0},
	}...)
	if l := f.Marks(); !slices.Equal(l, []api.MakerMark{{Kind: 0, Values: 2}, {Kind: 1, Values: 1}, {Kind: 2, Values: 31}}) {
		t.Errorf("Marks: %v", l)
	}
}

// P11.2, P11.3: horses, and what is asked of hair.
func TestHorses(t *testing.T) {
	f := made(t, setup())
	play(t, f, []said{
		{"best", "-", 0}, {"off", "0 0", 0}, {"left 0", "10 11", 0}, {"left 2", "20 22", 0}, {"left 3", "", api.ErrRange}, {"left 99999", "", api.ErrRange},
		{"dye 0", "", api.ErrRange}, {"dye 99999", "", api.ErrRange}, {"buy 0", "0", 0}, {"buy 20", "0", 0}, {"buy 21", "", api.ErrRange},
		{"horse 0 1 6", "", api.ErrRange}, {"horse 1 0 6", "", api.ErrRange}, {"horse 31 1 6", "", api.ErrRange}, {"horse 1 31 6", "", api.ErrRange}, {"horse 1 1 26", "", api.ErrRange},
		{"horse 1 1 25", "", api.ErrForemanFalse}, {"horse 30 30 6", "", api.ErrForemanFalse}, {"horse 6 4 6", "0 0", 0}, {"horse 4 5 4", "2 2 2 2", 0}, {"horse 1 9 5", "0 0 2 2 2 2", 0},
		{"best", "0 0 2 2 2 2", 0}, {"off", "1 4", 0}, {"left 0", "0 1", 0}, {"left 1", "8 9", 0}, {"left 2", "1 3", 0}, {"dye 0", "1 1", 0}, {"dye 1", "0 0", 0}, {"dye 2", "1 1", 0}, {"dye 3", "", api.ErrRange},
	}...)
	if l := f.Horses(); !slices.Equal(l, []api.HairHorse{{Mane: 6, Tail: 4, Shade: 6}, {Mane: 4, Tail: 5, Shade: 4}, {Mane: 1, Tail: 9, Shade: 5}}) {
		t.Errorf("Horses: %v", l)
	}
	// The two steps can differ, and so can the two hanks.
	two := setup(hanks(api.HairHank{Weight: just(4), Shade: just(5)}, api.HairHank{Weight: just(4), Shade: just(7)}), func(s *api.ForemanSetup) { s.Near = 0 })
	play(t, made(t, two), said{"horse 4 4 7", "0 1", 0}, said{"dye 0", "2 0", 0}, said{"off", "0 0", 0}, said{"left 1", "0 0", 0}, said{"horse 1 1 7", "", api.ErrForemanFalse}, said{"buy 3", "0", 0})
	play(t, made(t, setup(hanks())), said{"horse 1 1 6", "", api.ErrForemanFalse}, said{"best", "-", 0}, said{"off", "0 0", 0}, said{"left 0", "", api.ErrRange}, said{"buy 6", "0", 0})
}

// P11.2, P11.3, P11.11: jobs, and what is asked of bills and customers.
func TestJobs(t *testing.T) {
	f := made(t, setup(), "mark 0 2")
	play(t, f, []said{
		{"job anna 3 0 0 0 0 -", "", api.ErrRange}, {"job anna 0 1 0 0 0 -", "", api.ErrRange}, {"job anna 0 0 4 0 0 -", "", api.ErrRange}, {"job anna 0 20 21 0 0 -", "", api.ErrRange},
		{"job anna 0 0 0 1 0 -", "", api.ErrRange}, {"job anna 0 0 0 0 5 -", "", api.ErrRange}, {"job anna 0 0 0 99 100 -", "", api.ErrRange}, {"job anna 0 0 0 0 0 1000", "", api.ErrRange}, {"job anna 99999 99999 99999 99999 99999 99999", "", api.ErrRange},
		{"job bruno 0 2 2 7 7 10", "15 15", 0}, {"loss", "5 5", 0}, {"bill", "10 10", 0}, {"raise 0", "5", 0}, {"raise 1", "", api.ErrRange}, {"cost 0", "15 15", 0}, {"cost 1", "", api.ErrRange}, {"dear", "0", 0},
		{"pay 0", "0 0 0", 0}, {"pay 600", "0 0 50", 0}, {"pay 601", "", api.ErrRange}, {"made 10", "1", 0}, {"made 11", "-", 0}, {"made 99999", "-", 0}, {"can 10", "1", 0}, {"can 0", "0", 0}, {"can 99999", "0", 0},
		{"job anna 2 17 20 95 99 999", "163 179", 0}, {"job bruno 1 0 0 0 0 0", "0 0", 0}, {"job bruno 0 0 3 0 4 -", "0 16", 0},
		{"jobs anna", "1", 0}, {"jobs bruno", "0 2 3", 0}, {"dear", "0", 0}, {"cost 3", "0 16", 0}, {"raise 3", "0", 0}, {"bill", "173 205", 0},
	}...)
	if l := f.Jobs(); !slices.Equal(l, []api.MendJob{
		{Kind: 0, Hours: just(2), Parts: just(7), Cap: 10}, {Kind: 2, Hours: to(17, 20), Parts: to(95, 99), Cap: 999}, {Kind: 1, Cap: 0}, {Kind: 0, Hours: to(0, 3), Parts: to(0, 4), Cap: -1},
	}) {
		t.Errorf("Jobs: %v", l)
	}
	play(t, made(t, setup(), "job bruno 0 2 2 7 7 -"), said{"dear", "", api.ErrNone}, said{"loss", "0 0", 0}, said{"jobs anna", "-", 0}, said{"jobs bruno", "0", 0})
}

// P11.2, P11.11: names are compared byte by byte, as a whole; all six customers are known, and none if there are no names.
func TestCustomers(t *testing.T) {
	f := made(t, setup(names("a", "ab", "abc", "b", "a1", "a23456789012")))
	for _, name := range []string{"a", "ab", "abc", "b", "a1", "a23456789012"} {
		play(t, f, said{"jobs " + name, "-", 0})
	}
	for _, name := range []string{"abcd", "c", "A", "aB", "1a", "a12", "-", "0", "a2345678901", "a234567890123", "a\t", "a\x00", "\xff", "\u00e4", "a,b"} {
		play(t, f, said{"jobs " + name, "", api.ErrForemanUnknown}, said{"job " + name + " 0 0 0 0 0 -", "", api.ErrForemanUnknown})
	}
	play(t, f, said{"job ab 0 0 0 0 0 -", "0 7", 0}, said{"job a23456789012 0 0 0 0 0 -", "0 7", 0}, said{"job a 0 0 0 0 0 -", "0 7", 0}, said{"job ab 0 0 0 0 0 -", "0 7", 0})
	play(t, f, said{"jobs a", "2", 0}, said{"jobs ab", "0 3", 0}, said{"jobs abc", "-", 0}, said{"jobs a23456789012", "1", 0})
	play(t, made(t, setup(names())), said{"job anna 0 0 0 0 0 -", "", api.ErrForemanUnknown}, said{"jobs anna", "", api.ErrForemanUnknown}, said{"jobs a", "", api.ErrForemanUnknown})
}

// wellSaid are lines that have the form, one for each word.
var wellSaid = []string{
	"part 4 0 1 2 3", "mark 0 3", "horse 6 4 6", "job anna 1 2 3 5 6 7", "spots 0 0", "fewest", "most", "look", "who", "needs 2", "changed 2 2", "values 1", "seek",
	"best", "off", "left 0", "dye 0", "buy 6", "cost 0", "bill", "loss", "can 3", "made 3", "dear", "raise 0", "pay 7", "jobs anna",
}

// tokenKind is which tokens can stand at a place of a line.
type tokenKind int

const (
	aWord tokenKind = iota
	aName
	aNumber
	aChoice
)

func kindOf(word string, place int) tokenKind {
	switch {
	case place == 0:
		return aWord
	case place == 1 && (word == "job" || word == "jobs"):
		return aName
	case word == "part" && place >= 3, word == "job" && place == 7:
		return aChoice
	}
	return aNumber
}

// hasForm reports whether a line has the form, as far as a foreman tells.
func hasForm(t *testing.T, f *foreman.Foreman, line string) bool {
	t.Helper()
	a, e := f.Do(line)
	if e != api.OK && a != "" {
		t.Errorf("%q: %q, %d", line, a, e)
	}
	return e != api.ErrForemanLine
}

// P11.2: the form: words, and how many tokens there are.
func TestWords(t *testing.T) {
	for _, line := range wellSaid {
		f := made(t, setup())
		tokens := strings.Split(line, " ")
		wrong := []string{
			" " + line, line + " ", line + "  ", "  " + line, line + " 0", line + " -", line + " x", line + "\n", "\n" + line, line + " \t", "\t" + line, strings.Replace(line, " ", "  ", 1) + " ",
			strings.ToUpper(line), strings.ToUpper(line[:1]) + line[1:], "x" + line, line[1:], tokens[0] + "x " + strings.Join(tokens[1:], " "), tokens[0] + "-",
		}
		for i := 1; i < len(tokens); i++ {
			wrong = append(wrong,
				strings.Join(tokens[:i], " "), strings.Join(tokens[:i], " ")+" ", strings.Join(slices.Delete(slices.Clone(tokens), i, i+1), " "),
				strings.Join(tokens[:i], " ")+"  "+strings.Join(tokens[i:], " "), strings.Join(tokens[:i], " ")+"\t"+strings.Join(tokens[i:], " "), strings.Join(tokens[:i], " ")+" \n"+strings.Join(tokens[i:], " "), strings.Join(tokens[:i], "")+strings.Join(tokens[i:], " "),
			)
		}
		for _, l := range wrong {
			if hasForm(t, f, l) {
				t.Errorf("%q has the form", l)
			}
		}
		if !keptBy(f).isNothing() {
			t.Errorf("%q: something is kept: %v", line, keptBy(f))
		}
		if !hasForm(t, f, line) {
			t.Errorf("%q does not have the form", line)
		}
	}
	f := made(t, setup())
	for _, l := range []string{"", " ", "  ", "-", "0", "\n", "N", "saddle", "part", "job", "Jobs anna", "horses", "jobsanna", "parts", "\x00", "who\x00", "wh\u043e", "\xff"} {
		if hasForm(t, f, l) {
			t.Errorf("%q has the form", l)
		}
	}
}

// P11.2: the form: each token.
func TestTokens(t *testing.T) {
	numbers := []string{"0", "1", "9", "10", "99", "100", "999", "1000", "9999", "10000", "12345", "99999"}
	neither := []string{"00", "01", "000", "00000", "010", "09999", "100000", "123456", "000001", "999999999999999999999", "+1", "-1", "--", "-0", "+", "1-", "x", "1x", "x1", "0x1", "1.0", "1_0", "1e1", "\u0661", "\uff11", "/", ":", "1/", ":1", "\t1", "1\t", "1\r", "\x00", "1\n"}
	for _, line := range wellSaid {
		f := made(t, setup())
		tokens := strings.Split(line, " ")
		for i := range tokens {
			var right, wrong []string
			switch kindOf(tokens[0], i) {
			case aWord:
				wrong = slices.Concat(numbers, neither, []string{"", "-"})
			case aName:
				right, wrong = slices.Concat(numbers, neither[:len(neither)-1], []string{"-", "zoe", "Anna", strings.Repeat("a", 60)}), []string{"", "1\n", "\n"}
			case aNumber:
				right, wrong = numbers, slices.Concat(neither, []string{"", "-"})
			case aChoice:
				right, wrong = slices.Concat(numbers, []string{"-"}), slices.Concat(neither, []string{""})
			}
			for n, l := range slices.Concat(right, wrong) {
				other := slices.Clone(tokens)
				other[i] = l
				if l := strings.Join(other, " "); hasForm(t, f, l) != (n < len(right)) {
					t.Errorf("%q has the form: %v", l, n >= len(right))
				}
			}
		}
	}
}

// P11.2: a line has at most 100 bytes; bytes count, not letters.
func TestLongLines(t *testing.T) {
	f := made(t, setup())
	for _, parts := range [][2]string{{"jobs ", ""}, {"job ", " 0 0 0 0 0 -"}} {
		for _, letter := range []string{"a", "\u00e4", "\xff"} {
			room := api.ForemanLine - len(parts[0]) - len(parts[1])
			name := strings.Repeat(letter, room/len(letter)) + strings.Repeat("b", room%len(letter))
			play(t, f,
				said{parts[0] + name + parts[1], "", api.ErrForemanUnknown},
				said{parts[0] + name + "b" + parts[1], "", api.ErrForemanLine},
				said{parts[0] + name[1:] + parts[1], "", api.ErrForemanUnknown},
				said{parts[0] + strings.Repeat(name, 9) + parts[1], "", api.ErrForemanLine},
			)
		}
	}
	play(t, f, said{"who" + strings.Repeat(" ", 97), "", api.ErrForemanLine}, said{strings.Repeat("x", 100), "", api.ErrForemanLine}, said{strings.Repeat("x", 1<<20), "", api.ErrForemanLine})
}

// full are lines with which there is no room for anything more.
var full = slices.Concat(slices.Repeat([]string{"part 1 0 - - -"}, 5), slices.Repeat([]string{"mark 1 31"}, 8), slices.Repeat([]string{"horse 1 1 6"}, 3), slices.Repeat([]string{"job anna 0 0 0 0 0 -"}, 4))

// P11.2: of several errors that apply the one that is named first.
func TestOrderOfErrors(t *testing.T) {
	none := made(t, setup())
	some := made(t, setup(), "part 5 0 0 4 -", "part 4 1 1 - -", "mark 0 2", "horse 6 4 6", "job bruno 0 2 2 7 7 -")
	all := made(t, setup(), full...)
	// The line is wrong, and: a name is unknown, there is nothing to be asked, a number is wrong, there is no room, it cannot be, there is none.
	play(t, none, []said{
		{"job carl 0 0 0 0 0", "", api.ErrForemanLine}, {"job carl 0 0 0 0 -1 -", "", api.ErrForemanLine}, {"jobs carl 0", "", api.ErrForemanLine}, {"job carl - 0 0 0 0 -", "", api.ErrForemanLine},
		{"fewest 0", "", api.ErrForemanLine}, {"spots 00 0", "", api.ErrForemanLine}, {"spots 9 123456", "", api.ErrForemanLine}, {"bill ", "", api.ErrForemanLine}, {"pay 0601", "", api.ErrForemanLine}, {"cost -", "", api.ErrForemanLine},
		{"part 13 2 - -", "", api.ErrForemanLine}, {"part 13 2 0 00 -", "", api.ErrForemanLine}, {"mark 3 032", "", api.ErrForemanLine}, {"horse 0 0 26 ", "", api.ErrForemanLine}, {"job anna 3 0 0 0 0 01000", "", api.ErrForemanLine}, {"needs 3 ", "", api.ErrForemanLine}, {"dye 123456", "", api.ErrForemanLine},
		{"part 12 0 03 - -", "", api.ErrForemanLine}, {"mark 0 04", "", api.ErrForemanLine}, {"horse 30 30 07", "", api.ErrForemanLine},
	}...)
	play(t, all, []said{{"part 1 0 - - 00", "", api.ErrForemanLine}, {"mark 1 031", "", api.ErrForemanLine}, {"horse 1 1  6", "", api.ErrForemanLine}, {"job anna 0 0 0 0 0 --", "", api.ErrForemanLine}}...)
	play(t, some, []said{{"seek 0", "", api.ErrForemanLine}, {"dear -", "", api.ErrForemanLine}, {"needs 00", "", api.ErrForemanLine}}...)
	// A name is unknown, and: a number is wrong, there is no room.
	play(t, none, said{"job carl 3 0 0 0 0 -", "", api.ErrForemanUnknown}, said{"job carl 0 1 0 0 0 -", "", api.ErrForemanUnknown}, said{"job carl 0 0 0 0 0 1000", "", api.ErrForemanUnknown}, said{"jobs carl", "", api.ErrForemanUnknown})
	play(t, all, said{"job carl 0 0 0 0 0 -", "", api.ErrForemanUnknown}, said{"job carl 9 9 9 9 9 9999", "", api.ErrForemanUnknown}, said{"jobs carl", "", api.ErrForemanUnknown})
	// There is nothing to be asked, and a number is wrong.
	play(t, none, []said{
		{"spots 9 9", "", api.ErrNone}, {"spots 0 0", "", api.ErrNone}, {"spots 0 99999", "", api.ErrNone}, {"fewest", "", api.ErrNone}, {"most", "", api.ErrNone}, {"look", "", api.ErrNone},
		{"cost 9", "", api.ErrNone}, {"cost 0", "", api.ErrNone}, {"bill", "", api.ErrNone}, {"loss", "", api.ErrNone}, {"can 0", "", api.ErrNone}, {"made 0", "", api.ErrNone}, {"dear", "", api.ErrNone}, {"raise 9", "", api.ErrNone}, {"pay 700", "", api.ErrNone}, {"pay 0", "", api.ErrNone},
		{"jobs anna", "-", 0},
	}...)
	// It is of the one book only that there is nothing to be asked.
	play(t, made(t, setup(), "part 1 0 - - -"), said{"spots 9 9", "", api.ErrRange}, said{"bill", "", api.ErrNone}, said{"pay 700", "", api.ErrNone})
	play(t, made(t, setup(), "job anna 0 0 0 0 0 -"), said{"pay 700", "", api.ErrRange}, said{"fewest", "", api.ErrNone}, said{"spots 9 9", "", api.ErrNone})
	play(t, made(t, setup(), "mark 0 3", "horse 6 4 6"), said{"fewest", "", api.ErrNone}, said{"bill", "", api.ErrNone}, said{"jobs bruno", "-", 0})
	// A number is wrong, and: there is no room, it cannot be, there is none.
	play(t, all, []said{
		{"part 0 0 - - -", "", api.ErrRange}, {"part 1 2 - - -", "", api.ErrRange}, {"part 1 0 1 - -", "", api.ErrRange}, {"mark 1 0", "", api.ErrRange}, {"mark 3 31", "", api.ErrRange}, {"horse 0 1 6", "", api.ErrRange}, {"horse 1 1 26", "", api.ErrRange},
		{"job bruno 9 0 0 0 0 -", "", api.ErrRange}, {"job bruno 0 0 0 0 0 1000", "", api.ErrRange},
	}...)
	play(t, none, said{"part 12 2 3 - -", "", api.ErrRange}, said{"part 13 0 - - -", "", api.ErrRange}, said{"part 12 0 3 3 -", "", api.ErrRange}, said{"mark 0 36", "", api.ErrRange}, said{"mark 3 4", "", api.ErrRange}, said{"horse 31 30 7", "", api.ErrRange}, said{"horse 1 1 99999", "", api.ErrRange})
	play(t, some, said{"mark 0 0", "", api.ErrRange}, said{"changed 0 3", "", api.ErrRange}, said{"changed 3 0", "", api.ErrRange}, said{"needs 3", "", api.ErrRange}, said{"raise 1", "", api.ErrRange}, said{"cost 1", "", api.ErrRange}, said{"dye 1", "", api.ErrRange})
	// There is no room, and it cannot be.
	play(t, all, said{"part 12 0 3 - -", "", api.ErrFull}, said{"mark 0 4", "", api.ErrFull}, said{"mark 1 4", "", api.ErrFull}, said{"horse 30 30 6", "", api.ErrFull}, said{"horse 1 1 25", "", api.ErrFull})
	// Each alone.
	play(t, all, said{"part 1 0 - - -", "", api.ErrFull}, said{"mark 1 31", "", api.ErrFull}, said{"horse 1 1 6", "", api.ErrFull}, said{"job bruno 0 0 0 0 0 -", "", api.ErrFull})
	play(t, some, []said{{"part 12 0 3 - -", "", api.ErrForemanFalse}, {"mark 0 1", "", api.ErrForemanFalse}, {"mark 0 4", "", api.ErrForemanFalse}, {"horse 30 30 6", "", api.ErrForemanFalse}, {"seek", "", api.ErrNone}, {"needs 0", "", api.ErrNone}, {"changed 0 0", "", api.ErrNone}, {"dear", "", api.ErrNone}}...)
	// A foreman that is none, and all others.
	for _, l := range slices.Concat(wellSaid, []string{"", "x", "job carl 0 0 0 0 0 -", "part 0 2 - - -", "mark 0 4", "horse 30 30 7", "dye 9"}) {
		play(t, nil, said{l, "", api.ErrNil})
		play(t, &foreman.Foreman{}, said{l, "", api.ErrNil})
	}
}

// P11.2: how many there can be, whatever else there is.
func TestFull(t *testing.T) {
	f := made(t, setup())
	for i := range 10 {
		for n, l := range []string{"part 1 0 - - -", "mark 1 31", "horse 1 1 6", "job anna 0 0 0 0 0 -"} {
			want := api.OK
			if i >= []int{5, 8, 3, 4}[n] {
				want = api.ErrFull
			}
			if _, e := f.Do(l); e != want {
				t.Errorf("%d: %q: %d", i, l, e)
			}
		}
	}
	if k := keptBy(f); len(k.parts) != 5 || len(k.marks) != 8 || len(k.horses) != 3 || len(k.jobs) != 4 || len(k.journal) != 20 {
		t.Errorf("what is kept: %v", k)
	}
	play(t, f, said{"fewest", "0", 0}, said{"who", "0 1 2", 0}, said{"best", "1 1 1 1 1 1", 0}, said{"bill", "0 28", 0}, said{"jobs anna", "0 1 2 3", 0})
	for n, l := range []string{"part 1 0 - - -", "mark 1 31", "horse 1 1 6", "job anna 0 0 0 0 0 -"} {
		alone := made(t, setup(), slices.Repeat([]string{l}, []int{5, 8, 3, 4}[n])...)
		play(t, alone, said{l, "", api.ErrFull}, said{full[18], map[bool]string{true: "", false: "0 7"}[n == 3], map[bool]api.Errno{true: api.ErrFull, false: api.OK}[n == 3]})
	}
}

// P11.2, P11.3: a foreman that is nil, one that nobody made, and a copy of one, which neither New nor Open returned.
func TestNobody(t *testing.T) {
	f := made(t, setup(), "mark 0 2")
	c := *f
	for i, g := range []*foreman.Foreman{nil, {}, new(foreman.Foreman), &c} {
		play(t, g, said{"who", "", api.ErrNil}, said{"mark 0 2", "", api.ErrNil}, said{"", "", api.ErrNil}, said{"best", "", api.ErrNil})
		if !keptBy(g).isNothing() {
			t.Errorf("the foreman %d: %v", i, keptBy(g))
		}
	}
	play(t, f, said{"who", "1", 0})
}

// P11.7: a line that is an error changes nothing, and neither does a line that asks; neither is in the journal.
func TestWhatChangesNothing(t *testing.T) {
	f := made(t, setup())
	if !keptBy(f).isNothing() {
		t.Errorf("a new foreman: %v", keptBy(f))
	}
	f = made(t, setup(), "part 5 0 0 4 -", "mark 0 2", "horse 6 4 6", "job bruno 0 2 2 7 7 10")
	before := keptBy(f)
	if !slices.Equal(before.journal, []string{"part 5 0 0 4 -", "mark 0 2", "horse 6 4 6", "job bruno 0 2 2 7 7 10"}) || before.file != "part 5 0 0 4 -\nmark 0 2\nhorse 6 4 6\njob bruno 0 2 2 7 7 10\n" {
		t.Errorf("the journal: %q, %q", before.journal, before.file)
	}
	for _, l := range slices.Concat(wellSaid[4:], []string{"part 12 0 3 - -", "part 0 0 - - -", "part 1 2 - - -", "mark 0 4", "mark 0 1", "mark 9 9", "horse 30 30 7", "horse 0 0 0", "job carl 0 0 0 0 0 -", "job anna 9 9 9 9 9 9", "x", "", "needs 0", "spots 9 9", "dye 5"}) {
		f.Do(l)
		if k := keptBy(f); !reflect.DeepEqual(k, before) {
			t.Errorf("%q: %v, before %v", l, k, before)
		}
	}
	play(t, f, said{"fewest", "0", 0}, said{"who", "1", 0}, said{"best", "0 0", 0}, said{"bill", "10 10", 0}, said{"jobs anna", "-", 0}, said{"jobs bruno", "0", 0})
}

// validSetups are setups at the ends of what is valid.
func validSetups() map[string]change {
	return map[string]change{
		"that of the chapter": func(*api.ForemanSetup) {},
		"no names":            names(), "nil names": func(s *api.ForemanSetup) { s.Names = nil }, "6 names": names("a", "b", "c", "d", "e", "f"), "one name": names("anna"),
		"names of 1 byte": names("a", "z"), "names of 12 bytes": names("abcdefghijkl", "a12345678901", "zzzzzzzzzzzz"), "names with digits": names("a0", "z9", "a1b2"), "one name begins another": names("a", "aa", "aaa"),
		"no hanks": hanks(), "one maker": func(s *api.ForemanSetup) { s.Makers, s.Extra = [][]int{{31}}, []int{50} },
		"one plank": planks(api.PlankWood{Long: 1}), "long planks": planks(api.PlankWood{Long: 16}, api.PlankWood{Long: 16}, api.PlankWood{Long: 16}),
		"no Repairs": func(s *api.ForemanSetup) { s.Repairs, s.Fixed = 0, 0 }, "all Fixed": func(s *api.ForemanSetup) { s.Repairs, s.Fixed = 3, 7 },
		"the least of hair": func(s *api.ForemanSetup) { s.Dark, s.Near, s.Match = 0, 0, 0 }, "the most of hair": func(s *api.ForemanSetup) { s.Dark, s.Near, s.Match = 4, 3, 3 },
		"the Rate 0": func(s *api.ForemanSetup) { s.Rate = 0 }, "the Rate 20": func(s *api.ForemanSetup) { s.Rate = 20 },
		"one coin": coins(1), "4 coins": coins(1, 2, 3, 240),
	}
}

// wrongSetups are setups of which one thing is not valid, by what that is.
func wrongSetups() map[string]change {
	return map[string]change{
		"nothing": func(s *api.ForemanSetup) { *s = api.ForemanSetup{} },
		// Planks.
		"no planks": planks(), "4 planks": planks(slices.Repeat([]api.PlankWood{{Long: 5}}, 4)...), "a plank of 0": planks(api.PlankWood{}), "a plank of 17": func(s *api.ForemanSetup) { s.Planks[1].Long = 17 }, "a knot beyond": func(s *api.ForemanSetup) { s.Planks[1].Knots[0] = just(8) }, "a knot turned": func(s *api.ForemanSetup) { s.Planks[0].Knots[0] = to(4, 3) },
		"4 knots": func(s *api.ForemanSetup) { s.Planks[0].Knots = make([]api.Span, 4) }, "a knot of 7 apart": func(s *api.ForemanSetup) { s.Planks[0].Knots[0] = to(0, 7) },
		// Makers.
		"no makers": makers(), "no makers, nor extras": func(s *api.ForemanSetup) { s.Makers, s.Extra = nil, nil }, "6 makers": func(s *api.ForemanSetup) {
			s.Makers, s.Extra = slices.Repeat([][]int{{1, 1, 1}}, 6), make([]int, 6)
		}, "a maker with fewer kinds": func(s *api.ForemanSetup) { s.Makers[1] = []int{2, 2} }, "no kinds": func(s *api.ForemanSetup) { s.Makers, s.Repairs, s.Fixed = make([][]int, 3), 0, 0 }, "a set of none": func(s *api.ForemanSetup) { s.Makers[2][1] = 0 }, "a set of 32": func(s *api.ForemanSetup) { s.Makers[2][1] = 32 },
		"the Repairs -1": func(s *api.ForemanSetup) { s.Repairs = -1 }, "the Repairs 4": func(s *api.ForemanSetup) { s.Repairs = 4 }, "the Fixed 8": func(s *api.ForemanSetup) { s.Fixed = 8 }, "the Fixed -1": func(s *api.ForemanSetup) { s.Fixed = -1 },
		// Hair.
		"5 hanks": hanks(slices.Repeat([]api.HairHank{{Weight: just(1)}}, 5)...), "a hank of 0": hanks(api.HairHank{}), "a hank of 5 apart": func(s *api.ForemanSetup) { s.Hanks[0].Weight = to(10, 15) }, "a shade of 3 apart": func(s *api.ForemanSetup) { s.Hanks[0].Shade = to(3, 6) }, "a shade of 21": func(s *api.ForemanSetup) { s.Hanks[2].Shade = just(21) },
		"the Dark 5": func(s *api.ForemanSetup) { s.Dark = 5 }, "the Dark -1": func(s *api.ForemanSetup) { s.Dark = -1 }, "the Near 4": func(s *api.ForemanSetup) { s.Near = 4 }, "the Near -1": func(s *api.ForemanSetup) { s.Near = -1 }, "the Match 4": func(s *api.ForemanSetup) { s.Match = 4 }, "the Match -1": func(s *api.ForemanSetup) { s.Match = -1 },
		// Bills.
		"the Rate 21": func(s *api.ForemanSetup) { s.Rate = 21 }, "the Rate -1": func(s *api.ForemanSetup) { s.Rate = -1 }, "an extra less": extra(3, 0), "an extra more": extra(3, 0, 7, 1), "no extras": extra(), "an extra of 51": extra(3, 51, 7), "an extra of -1": extra(-1, 0, 7),
		"no coins": coins(), "5 coins": coins(1, 2, 3, 4, 5), "no penny": coins(2, 3), "coins that are the same": coins(1, 3, 3), "coins that decrease": coins(1, 12, 3), "a coin of 241": coins(1, 241), "a coin of 0": coins(0, 1),
		// Names.
		"7 names": names("a", "b", "c", "d", "e", "f", "g"), "many names": names(slices.Repeat([]string{"a"}, 1<<18)...), "a name of 0 bytes": names("anna", ""), "only a name of 0 bytes": names(""), "a name of 13 bytes": names("anna", "a234567890123"), "a long name": names(strings.Repeat("a", 1<<20)),
		"a digit first": names("1a", "bruno"), "only digits": names("12"), "a capital first": names("anna", "Bruno"), "a capital": names("brunO"), "two that are the same": names("anna", "anna"), "the last is the same": names("a", "b", "c", "d", "e", "a"), "two of the middle are the same": names("a", "b", "c", "c", "e"),
		"a name with a space": names("an na"), "a space behind": names("anna "), "a hyphen": names("-"), "a name with a hyphen": names("an-na"), "a line feed": names("anna\n"), "a name with a 0 byte": names("anna\x00"), "another letter": names("\u00e4nna"), "a letter of two bytes": names("ann\u00e4"), "a broken letter": names("a\xff"), "before a": names("a`"), "behind z": names("a{"), "before 0": names("a/"), "behind 9": names("a:"),
		// Numbers far away.
		"far below": func(s *api.ForemanSetup) { s.Rate, s.Repairs, s.Dark = math.MinInt, math.MinInt, math.MinInt }, "far above": func(s *api.ForemanSetup) { s.Rate, s.Fixed, s.Match = math.MaxInt, math.MaxInt, math.MaxInt }, "knots far away": func(s *api.ForemanSetup) { s.Planks[0].Knots[0] = to(math.MinInt, math.MaxInt) },
	}
}

// P11.1, P11.4: which setups are valid; the error of a setup comes before those of a file.
func TestSetups(t *testing.T) {
	files := []string{"", "who\n", "x", "mark 0 2\n", strings.Repeat("x", api.MaxText+1)}
	for name, c := range validSetups() {
		f, e := foreman.New(setup(c))
		if k := foreman.Check(setup(c)); k != api.OK || e != api.OK || f == nil {
			t.Fatalf("%s: Check %d, New %v, %d", name, k, f, e)
		}
		if g, n, e := foreman.Open(setup(c), ""); g == nil || n != 0 || e != api.OK {
			t.Errorf("%s: Open %v, %d, %d", name, g, n, e)
		}
		if a, e := f.Do("best"); a != "-" || e != api.OK || !keptBy(f).isNothing() {
			t.Errorf("%s: best %q, %d, %v", name, a, e, keptBy(f))
		}
	}
	for name, c := range wrongSetups() {
		f, e := foreman.New(setup(c))
		if k := foreman.Check(setup(c)); k != api.ErrForeman || e != api.ErrForeman || f != nil {
			t.Errorf("%s: Check %d, New %v, %d", name, k, f, e)
		}
		for _, file := range files {
			if g, n, e := foreman.Open(setup(c), file); g != nil || n != 0 || e != api.ErrForeman {
				t.Errorf("%s: Open %q: %v, %d, %d", name, file[:min(9, len(file))], g, n, e)
			}
		}
	}
	// Each book for itself, and all of them.
	wrong := []string{"no planks", "a set of none", "the Dark 5", "the Rate 21", "a digit first"}
	for _, name := range wrong {
		for _, other := range wrong {
			if e := foreman.Check(setup(wrongSetups()[name], wrongSetups()[other])); e != api.ErrForeman {
				t.Errorf("%s, %s: %d", name, other, e)
			}
		}
	}
}

// opened is a file, how many of its lines are done, and the error.
type opened struct {
	file string
	at   int
	e    api.Errno
}

// manyBytes returns a file of just so many bytes, with a line feed at its end, whose lines have the form and add nothing that there is no room for, as long as they can.
func manyBytes(n int) string {
	first := strings.Join(full, "\n") + "\n"
	return first + strings.Repeat("x", n-len(first)-1) + "\n"
}

// P11.4: Open.
func TestOpen(t *testing.T) {
	for i, x := range []opened{
		{"", 0, api.OK}, {"mark 0 2\n", 1, api.OK}, {"mark 0 2\nmark 1 8\n", 2, api.OK}, {strings.Join(full, "\n") + "\n", 20, api.OK},
		// Its last byte.
		{"mark 0 2", 0, api.ErrForm}, {"mark 0 2\nmark 1 8", 0, api.ErrForm}, {"mark 0 2\n ", 0, api.ErrForm}, {"mark 0 2\r", 0, api.ErrForm}, {"x", 0, api.ErrForm}, {"\nx", 0, api.ErrForm},
		// How long it is.
		{strings.Repeat("x", 60000), 0, api.ErrForm}, {strings.Repeat("x", 60001), 0, api.ErrLong}, {strings.Repeat("x", 59999) + "\n", 0, api.ErrForemanLine}, {strings.Repeat("x", 60000) + "\n", 0, api.ErrLong}, {strings.Repeat("\n", 60000), 0, api.ErrForemanLine}, {strings.Repeat("\n", 60001), 0, api.ErrLong},
		{manyBytes(60000), 20, api.ErrForemanLine}, {manyBytes(60001), 0, api.ErrLong}, {strings.Repeat("mark 1 31\n", 6000), 8, api.ErrFull}, {strings.Repeat("mark 1 31\n", 6001), 0, api.ErrLong}, {strings.Repeat("x", 1<<20), 0, api.ErrLong},
		// An empty line, at the beginning and farther on.
		{"\n", 0, api.ErrForemanLine}, {"\nmark 0 2\n", 0, api.ErrForemanLine}, {"mark 0 2\n\n", 1, api.ErrForemanLine}, {"mark 0 2\n\nmark 1 8\n", 1, api.ErrForemanLine}, {"mark 0 2\nmark 1 8\n\n\n", 2, api.ErrForemanLine},
		// A line that asks, whatever it asks.
		{"who\n", 0, api.ErrForemanLine}, {"mark 0 2\nwho\n", 1, api.ErrForemanLine}, {"mark 0 2\nwho\nmark 0 1\n", 1, api.ErrForemanLine}, {"jobs anna\n", 0, api.ErrForemanLine}, {"jobs carl\n", 0, api.ErrForemanLine}, {"fewest\n", 0, api.ErrForemanLine}, {"mark 0 2\nbill\n", 1, api.ErrForemanLine}, {"needs 9\n", 0, api.ErrForemanLine}, {"mark 0 2\nseek\n", 1, api.ErrForemanLine}, {"dye 0\n", 0, api.ErrForemanLine},
		// A line that is an error, each of them.
		{"x\n", 0, api.ErrForemanLine}, {"mark 0 2\nx\n", 1, api.ErrForemanLine}, {"mark 0 2 \n", 0, api.ErrForemanLine}, {"mark 0 2\r\n", 0, api.ErrForemanLine}, {"job " + strings.Repeat("a", 85) + " 0 0 0 0 0 -\n", 0, api.ErrForemanLine}, {"job " + strings.Repeat("a", 84) + " 0 0 0 0 0 -\n", 0, api.ErrForemanUnknown},
		{"job carl 0 0 0 0 0 -\n", 0, api.ErrForemanUnknown}, {"mark 0 2\njob anna 0 0 0 0 0 -\njob carl 0 0 0 0 0 -\nx\n", 2, api.ErrForemanUnknown},
		{"mark 0 0\n", 0, api.ErrRange}, {"part 5 0 - - -\npart 5 2 - - -\n", 1, api.ErrRange}, {"horse 0 0 0\n", 0, api.ErrRange},
		{strings.Repeat("mark 1 31\n", 9), 8, api.ErrFull}, {strings.Repeat("part 1 0 - - -\n", 6), 5, api.ErrFull}, {strings.Repeat("horse 1 1 6\n", 4), 3, api.ErrFull}, {strings.Repeat("job anna 0 0 0 0 0 -\n", 5), 4, api.ErrFull},
		{"mark 0 4\n", 0, api.ErrForemanFalse}, {"mark 0 2\nmark 0 1\n", 1, api.ErrForemanFalse}, {"part 12 0 3 - -\n", 0, api.ErrForemanFalse}, {"horse 6 4 6\nhorse 30 30 6\nmark 0 0\n", 1, api.ErrForemanFalse},
		// Of several errors that of the first line.
		{"mark 0 0\nx\n", 0, api.ErrRange}, {"x\nmark 0 0\n", 0, api.ErrForemanLine}, {"mark 0 2\nmark 0 4\nwho\n", 1, api.ErrForemanFalse}, {"mark 0 2\nwho\nmark 0 4\n", 1, api.ErrForemanLine},
	} {
		f, at, e := foreman.Open(setup(), x.file)
		if at != x.at || e != x.e || (f != nil) != (e == api.OK) {
			t.Errorf("Open %d: %v, %d, %d", i, f != nil, at, e)
		}
		if f != nil && (f.File() != x.file || len(f.Journal()) != x.at) {
			t.Errorf("Open %d: the file %q", i, f.File())
		}
	}
}

// P11.6: a foreman that is opened is the same, and goes on like one.
func TestOpenedAgain(t *testing.T) {
	f := made(t, setup(), "part 5 0 0 4 -", "mark 0 2", "horse 6 4 6", "job bruno 0 2 2 7 7 10")
	g, n, e := foreman.Open(setup(), f.File())
	if e != api.OK || n != 4 || !reflect.DeepEqual(keptBy(f), keptBy(g)) {
		t.Fatalf("Open: %d, %d, %v", n, e, keptBy(g))
	}
	more := []said{{"fewest", "0", 0}, {"who", "1", 0}, {"best", "0 0", 0}, {"jobs bruno", "0", 0}, {"bill", "10 10", 0}, {"mark 0 1", "", api.ErrForemanFalse}, {"mark 1 1", "1", 0}, {"job anna 1 0 0 0 0 -", "0 0", 0}, {"jobs anna", "1", 0}}
	play(t, f, more...)
	play(t, g, more...)
	if f.File() != g.File() || !strings.HasSuffix(g.File(), "mark 1 1\njob anna 1 0 0 0 0 -\n") {
		t.Errorf("the files: %q, %q", f.File(), g.File())
	}
	// With another setup it can be another one, or none.
	if g, n, e := foreman.Open(setup(names("anna")), f.File()); g != nil || n != 3 || e != api.ErrForemanUnknown {
		t.Errorf("Open without bruno: %d, %d", n, e)
	}
}

// P11.1, P11.5: what is written into a setup later changes nothing.
func TestSetupWrittenInto(t *testing.T) {
	s := setup()
	f := made(t, s, "part 5 0 0 4 -", "mark 0 2", "horse 6 4 6", "job bruno 0 2 2 7 7 10")
	g, _, e := foreman.Open(s, f.File())
	if e != api.OK {
		t.Fatalf("Open: %d", e)
	}
	s.Planks[0].Knots[0], s.Makers[1][0], s.Makers[0], s.Hanks[0], s.Extra[1], s.Coins[1], s.Names[1] = just(0), 16, []int{31, 31, 31}, api.HairHank{}, 50, 2, "z"
	s.Planks[1] = api.PlankWood{Long: 1}
	for _, f := range []*foreman.Foreman{f, g} {
		play(t, f, said{"spots 0 0", "1 2 5 6 7", 0}, said{"spots 1 0", "0 1 3", 0}, said{"who", "1", 0}, said{"off", "0 1", 0}, said{"bill", "10 10", 0}, said{"cost 0", "15 15", 0}, said{"pay 15", "0 1 1", 0}, said{"jobs bruno", "0", 0}, said{"jobs z", "", api.ErrForemanUnknown})
	}
}

// P11.5: what is written into results changes nothing.
func TestResultsWrittenInto(t *testing.T) {
	lines := []string{"part 5 0 0 4 -", "part 4 0 - - -", "mark 0 2", "horse 6 4 6", "job bruno 0 2 2 7 7 10"}
	f, other := made(t, setup(), lines...), made(t, setup(), lines...)
	before, k := keptBy(other), keptBy(f)
	k.parts[0].Joints[0] = 3
	k.parts[0], k.marks[0], k.horses[0], k.jobs[0], k.journal[0] = api.PlankShape{Long: 1}, api.MakerMark{}, api.HairHorse{}, api.MendJob{}, "x"
	_, _, _, _, _ = append(k.parts, api.PlankShape{}), append(k.marks, api.MakerMark{}), append(k.horses, api.HairHorse{}), append(k.jobs, api.MendJob{}), append(k.journal, "x")
	if now := keptBy(f); !reflect.DeepEqual(now, before) {
		t.Errorf("what is kept: %v, before %v", now, before)
	}
	play(t, f, said{"spots 0 0", "1 2 5 6 7", 0}, said{"who", "1", 0}, said{"off", "0 1", 0}, said{"bill", "10 10", 0})
	// Nor does a line that comes later change what was returned.
	k = keptBy(f)
	play(t, f, said{"part 1 0 - - -", "0", 0}, said{"mark 1 1", "1", 0}, said{"horse 1 1 6", "0 0 1 1", 0}, said{"job anna 1 0 0 0 0 -", "0 0", 0})
	if !reflect.DeepEqual(k, before) {
		t.Errorf("what was returned: %v, before %v", k, before)
	}
}

// spare returns a setup with room behind its lists, into which nothing may be written.
func spare() api.ForemanSetup {
	s := setup()
	for i := range s.Planks {
		s.Planks[i].Knots = append(s.Planks[i].Knots, just(77))[:1]
	}
	for i := range s.Makers {
		s.Makers[i] = append(s.Makers[i], 77)[:3]
	}
	s.Planks, s.Makers, s.Hanks = append(s.Planks, api.PlankWood{Long: 77})[:2], append(s.Makers, []int{77})[:3], append(s.Hanks, api.HairHank{Weight: just(77)})[:3]
	s.Extra, s.Coins, s.Names = append(s.Extra, 77)[:3], append(s.Coins, 77)[:3], append(s.Names, "77")[:2]
	return s
}

// behind returns a setup whose lists have all that lies behind them, too.
func behind(s api.ForemanSetup) api.ForemanSetup {
	s.Planks, s.Makers, s.Hanks = slices.Clone(s.Planks[:3]), slices.Clone(s.Makers[:4]), s.Hanks[:4]
	s.Extra, s.Coins, s.Names = s.Extra[:4], s.Coins[:4], s.Names[:3]
	for i := range 2 {
		s.Planks[i].Knots = s.Planks[i].Knots[:2]
	}
	for i := range 3 {
		s.Makers[i] = s.Makers[i][:4]
	}
	return s
}

// P11.5: arguments are not changed.
func TestArgumentsStay(t *testing.T) {
	s := spare()
	want := behind(spare())
	f := made(t, s, full...)
	for _, l := range wellSaid {
		f.Do(l)
	}
	foreman.Open(s, f.File())
	foreman.Check(s)
	if !reflect.DeepEqual(behind(s), want) || len(s.Planks) != 2 || len(s.Names) != 2 {
		t.Errorf("the setup: %v", behind(s))
	}
}

// P1, P2: two foremen of one setup know nothing of each other.
func TestTwoForemen(t *testing.T) {
	s := setup()
	f, g := made(t, s), made(t, s)
	for i, l := range full {
		if _, e := f.Do(l); e != api.OK {
			t.Errorf("%d: %q: %d", i, l, e)
		}
		if !keptBy(g).isNothing() {
			t.Errorf("the other one, %d: %v", i, keptBy(g))
		}
	}
	play(t, g, said{"fewest", "", api.ErrNone}, said{"jobs anna", "-", 0}, said{"mark 0 2", "1", 0}, said{"best", "-", 0})
	play(t, f, said{"who", "0 1 2", 0}, said{"jobs anna", "0 1 2 3", 0})
}

// The samples of all words are told in wellSaid, and no others.
func TestSamples(t *testing.T) {
	words := map[string]bool{}
	for _, l := range wellSaid {
		word, _, _ := strings.Cut(l, " ")
		words[word] = true
	}
	if got := slices.Sorted(maps.Keys(words)); len(got) != 27 || len(got) != len(forms) {
		t.Errorf("words: %s", strconv.Quote(strings.Join(got, " ")))
	}
}
