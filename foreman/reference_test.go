package foreman_test

// The reference reads lines by regular expressions, and asks the layers straight of books that it puts together anew for each line; so it finds what package foreman must return.

import (
	"fmt"
	"math/rand/v2"
	"regexp"
	"slices"
	"strconv"
	"strings"

	"skewbald/api"
	"skewbald/hair"
	"skewbald/maker"
	"skewbald/mend"
	"skewbald/plank"
)

// forms are the tokens behind each word: N for a name, C for a number or a hyphen, 9 for a number.
var forms = map[string]string{
	"part": "99CCC", "mark": "99", "horse": "999", "job": "N99999C",
	"spots": "99", "fewest": "", "most": "", "look": "",
	"who": "", "needs": "9", "changed": "99", "values": "9", "seek": "",
	"best": "", "off": "", "left": "9", "dye": "9", "buy": "9",
	"cost": "9", "bill": "", "loss": "", "can": "9", "made": "9", "dear": "", "raise": "9", "pay": "9", "jobs": "N",
}

// expressions are the forms as regular expressions.
var expressions = func() map[string]*regexp.Regexp {
	all := map[string]*regexp.Regexp{}
	for word, form := range forms {
		x := `\A` + word
		for _, letter := range form {
			x += " " + map[rune]string{'N': `([^ \n]+)`, 'C': `(0|[1-9][0-9]{0,4}|-)`, '9': `(0|[1-9][0-9]{0,4})`}[letter]
		}
		all[word] = regexp.MustCompile(x + `\z`)
	}
	return all
}()

// read returns the word of a line, its name, and its numbers, -1 for a hyphen; no word if it does not have the form.
func read(line string) (word, name string, numbers []int) {
	if len(line) > 100 {
		return "", "", nil
	}
	for word, x := range expressions {
		found := x.FindStringSubmatch(line)
		if found == nil {
			continue
		}
		for i, token := range found[1:] {
			switch n, e := strconv.Atoi(token); {
			case forms[word][i] == 'N':
				name = token
			case e != nil:
				numbers = append(numbers, -1)
			default:
				numbers = append(numbers, n)
			}
		}
		return word, name, numbers
	}
	return "", "", nil
}

// changes reports whether a line has the form, and changes something if it is no error.
func changes(line string) bool {
	word, _, _ := read(line)
	return slices.Contains([]string{"part", "mark", "horse", "job"}, word)
}

// model is a foreman of the reference.
type model struct {
	s      api.ForemanSetup
	parts  []api.PlankShape
	marks  []api.MakerMark
	horses []api.HairHorse
	jobs   []api.MendJob
	of     []string
	lines  []string
}

func (m model) plank() api.PlankBook { return api.PlankBook{Planks: m.s.Planks, Parts: m.parts} }

func (m model) maker() api.MakerBook {
	return api.MakerBook{Makers: m.s.Makers, Seen: m.marks, Repairs: m.s.Repairs, Fixed: m.s.Fixed}
}

func (m model) hair() api.HairBook {
	return api.HairBook{Hanks: m.s.Hanks, Horses: m.horses, Dark: m.s.Dark, Near: m.s.Near, Match: m.s.Match}
}

func (m model) mend() api.MendBook {
	return api.MendBook{Maker: m.maker(), Jobs: m.jobs, Rate: m.s.Rate, Extra: m.s.Extra, Coins: m.s.Coins}
}

// told returns a list of numbers as an answer.
func told(l []int) string {
	if len(l) == 0 {
		return "-"
	}
	return strings.Trim(fmt.Sprint(l), "[]")
}

// with returns the model with what a line adds, and whether it is valid by itself, whether there is room for it, and what is answered, if it can be.
func (m model) with(word, name string, n []int) (then model, isValid, hasRoom bool, answer string, canBe bool) {
	alone, then := model{s: m.s}, m
	var list []int
	var e api.Errno
	switch word {
	case "part":
		p := api.PlankShape{Long: n[0], Turns: n[1] == 1, Joints: slices.DeleteFunc(slices.Clone(n[2:]), func(n int) bool { return n == -1 })}
		alone.parts, then.parts = []api.PlankShape{p}, append(slices.Clone(m.parts), p)
		isValid, hasRoom = n[1] < 2 && plank.Check(alone.plank()) == api.OK, len(m.parts) < 5
		list, e = plank.Fewest(then.plank())
		canBe = e == api.OK
	case "mark":
		k := api.MakerMark{Kind: n[0], Values: n[1]}
		alone.marks, then.marks = []api.MakerMark{k}, append(slices.Clone(m.marks), k)
		isValid, hasRoom = maker.Check(alone.maker()) == api.OK, len(m.marks) < 8
		list, e = maker.Who(then.maker())
		canBe = e == api.OK && len(list) > 0
	case "horse":
		h := api.HairHorse{Mane: n[0], Tail: n[1], Shade: n[2]}
		alone.horses, then.horses = []api.HairHorse{h}, append(slices.Clone(m.horses), h)
		isValid, hasRoom = hair.Check(alone.hair()) == api.OK, len(m.horses) < 3
		list, e = hair.Best(then.hair())
		canBe = e == api.OK
	case "job":
		j := api.MendJob{Kind: n[0], Hours: to(n[1], n[2]), Parts: to(n[3], n[4]), Cap: n[5]}
		alone.jobs, then.jobs, then.of = []api.MendJob{j}, append(slices.Clone(m.jobs), j), append(slices.Clone(m.of), name)
		isValid, hasRoom = mend.Check(alone.mend()) == api.OK, len(m.jobs) < 4
		s, _ := mend.Job(then.mend(), len(m.jobs))
		list, canBe = []int{s.Low, s.High}, true
	}
	return then, isValid, hasRoom, told(list), canBe
}

// list returns what a line answers that asks for a list.
func (m model) list(word, name string, n []int) ([]int, api.Errno) {
	switch word {
	case "spots":
		return plank.Spots(m.plank(), n[0], n[1])
	case "fewest":
		return plank.Fewest(m.plank())
	case "most":
		return plank.Most(m.plank())
	case "who":
		return maker.Who(m.maker())
	case "values":
		return maker.Values(m.maker(), n[0])
	case "best":
		return hair.Best(m.hair())
	case "made":
		return mend.Whose(m.mend(), n[0])
	case "pay":
		return mend.Pay(m.mend(), n[0])
	}
	var all []int
	for i, of := range m.of {
		if of == name {
			all = append(all, i)
		}
	}
	return all, api.OK
}

// number returns what a line answers that asks for a number; whether it does.
func (m model) number(word string, n []int) (number int, e api.Errno, does bool) {
	switch word {
	case "needs":
		number, e = maker.Needs(m.maker(), n[0])
	case "changed":
		number, e = maker.Changed(m.maker(), n[0], n[1])
	case "seek":
		number, e = maker.Look(m.maker())
	case "buy":
		number, e = hair.Buy(m.hair(), n[0])
	case "can":
		so, k := mend.Can(m.mend(), n[0])
		number, e = map[bool]int{true: 1}[so], k
	case "dear":
		number, e = mend.Dear(m.mend())
	case "raise":
		number, e = mend.Raise(m.mend(), n[0])
	default:
		return 0, 0, false
	}
	return number, e, true
}

// pair returns what a line answers that asks for two numbers; whether it does.
func (m model) pair(word string, n []int) (low, high int, e api.Errno, does bool) {
	var s api.Span
	plan, _ := hair.Best(m.hair())
	switch word {
	case "look":
		s.Low, s.High, e = plank.Look(m.plank())
	case "dye":
		if n[0] >= len(m.horses) {
			return 0, 0, api.ErrRange, true
		}
		s.Low, s.High, e = hair.Dyes(m.hair(), n[0], plan[2*n[0]], plan[2*n[0]+1])
	case "off":
		s, e = hair.Off(m.hair(), plan)
	case "left":
		s, e = hair.Left(m.hair(), plan, n[0])
	case "cost":
		s, e = mend.Job(m.mend(), n[0])
	case "bill":
		s, e = mend.Bill(m.mend())
	case "loss":
		s, e = mend.Loss(m.mend())
	default:
		return 0, 0, 0, false
	}
	return s.Low, s.High, e, true
}

// ask returns what a line answers that asks, and the error of the layer.
func (m model) ask(word, name string, n []int) (string, api.Errno) {
	if number, e, does := m.number(word, n); does {
		return strconv.Itoa(number), e
	}
	if low, high, e, does := m.pair(word, n); does {
		return strconv.Itoa(low) + " " + strconv.Itoa(high), e
	}
	l, e := m.list(word, name, n)
	return told(l), e
}

// do returns the model behind a line, its answer, and its error: the errors just as they are named one after the other.
func (m model) do(line string) (model, string, api.Errno) {
	word, name, n := read(line)
	switch {
	case word == "":
		return m, "", api.ErrForemanLine
	case changes(line) && len(m.lines) >= 200:
		return m, "", api.ErrFull
	case name != "" && !slices.Contains(m.s.Names, name):
		return m, "", api.ErrForemanUnknown
	case slices.Contains([]string{"spots", "fewest", "most", "look"}, word) && len(m.parts) == 0:
		return m, "", api.ErrNone
	case slices.Contains([]string{"cost", "bill", "loss", "can", "made", "dear", "raise", "pay"}, word) && len(m.jobs) == 0:
		return m, "", api.ErrNone
	}
	if !changes(line) {
		answer, e := m.ask(word, name, n)
		switch e {
		case api.OK:
			return m, answer, api.OK
		case api.ErrPlankAsk, api.ErrMakerAsk, api.ErrHairAsk, api.ErrMendAsk:
			return m, "", api.ErrRange
		}
		return m, "", e
	}
	then, isValid, hasRoom, answer, canBe := m.with(word, name, n)
	switch {
	case !isValid:
		return m, "", api.ErrRange
	case !hasRoom:
		return m, "", api.ErrFull
	case !canBe:
		return m, "", api.ErrForemanFalse
	}
	then.lines = append(slices.Clone(m.lines), line)
	return then, answer, api.OK
}

// open does what Open does with a valid setup.
func open(s api.ForemanSetup, file string) (m model, at int, e api.Errno) {
	if len(file) > 60000 {
		return model{}, 0, api.ErrLong
	}
	if file != "" && file[len(file)-1] != '\n' {
		return model{}, 0, api.ErrForm
	}
	m.s = s
	lines := strings.Split(file, "\n")
	for at, line := range lines[:len(lines)-1] {
		if !changes(line) {
			return model{}, at, api.ErrForemanLine
		}
		if m, _, e = m.do(line); e != api.OK {
			return model{}, at, e
		}
	}
	return m, len(lines) - 1, api.OK
}

func (m model) file() string {
	var file string
	for _, l := range m.lines {
		file += l + "\n"
	}
	return file
}

// span returns a span from low to high, its ends no more than wide apart.
func span(r *rand.Rand, low, high, wide int) api.Span {
	n := low + r.IntN(high-low+1)
	return to(n, min(high, n+r.IntN(wide+1)))
}

// setups returns valid setups, always the same ones for a seed.
func setups(seed uint64, many int) []api.ForemanSetup {
	r := rand.New(rand.NewPCG(seed, 11))
	all := []api.ForemanSetup{setup()}
	for len(all) < many {
		s := api.ForemanSetup{Rate: r.IntN(21), Coins: []int{1}, Names: []string{"anna", "bruno", "carl", "a", "b2", "anna1"}[r.IntN(6):], Dark: r.IntN(5), Near: r.IntN(4), Match: r.IntN(4)}
		for range 1 + r.IntN(3) {
			w := api.PlankWood{Long: 1 + r.IntN(16)}
			for range r.IntN(4) {
				w.Knots = append(w.Knots, span(r, 0, w.Long-1, 6))
			}
			s.Planks = append(s.Planks, w)
		}
		kinds := 1 + r.IntN(4)
		for range 1 + r.IntN(5) {
			var sets []int
			for range kinds {
				sets = append(sets, 1+r.IntN(31)&r.IntN(32))
			}
			s.Makers, s.Extra = append(s.Makers, sets), append(s.Extra, r.IntN(51))
		}
		s.Repairs, s.Fixed = r.IntN(min(kinds, 2)+1), r.IntN(1<<kinds)
		for range r.IntN(5) {
			s.Hanks = append(s.Hanks, api.HairHank{Weight: span(r, 10, 60, 4), Shade: span(r, 3, 12, 2)})
		}
		for coin := 2 + r.IntN(9); len(s.Coins) < 4 && coin < 240; coin += 1 + r.IntN(99) {
			s.Coins = append(s.Coins, coin)
		}
		all = append(all, s)
	}
	return all
}

// sayer tells lines for a setup, most of which are right.
type sayer struct {
	*rand.Rand
	s api.ForemanSetup
}

func (r sayer) among(words ...string) string { return words[r.IntN(len(words))] }

// number returns a number that mostly lies between two others.
func (r sayer) number(low, high int) string {
	switch r.IntN(40) {
	case 0:
		return strconv.Itoa(high + 1)
	case 1:
		return strconv.Itoa(r.IntN(100000))
	case 2:
		return r.among("0", "99999", "-", "00", "07", "-1", "+1", "100000", "x", "", "1 ")
	}
	return strconv.Itoa(low + r.IntN(max(1, high-low+1)))
}

func (r sayer) spanned(low, high, wide int) string {
	s := span(r.Rand, low, high, wide)
	if r.IntN(20) == 0 {
		return r.number(low, high) + " " + r.number(low, high)
	}
	return strconv.Itoa(s.Low) + " " + strconv.Itoa(s.High)
}

func (r sayer) joints(long int) string {
	joints := []string{"-", "-", "-"}
	at := -1
	for i := range joints {
		if r.IntN(2) == 0 && at+1 < long {
			at += 1 + r.IntN(max(1, long/2))
			joints[i] = strconv.Itoa(at)
		}
	}
	if r.IntN(10) == 0 {
		r.Shuffle(3, func(i, j int) { joints[i], joints[j] = joints[j], joints[i] })
	}
	return strings.Join(joints, " ")
}

func (r sayer) name() string {
	if len(r.s.Names) > 0 && r.IntN(12) > 0 {
		return r.among(r.s.Names...)
	}
	return r.among("anna", "zoe", "Anna", "a", "-", "9", "", "\xff")
}

// change returns a line that changes something, if it is right.
func (r sayer) change() string {
	switch r.IntN(4) {
	case 0:
		long := 1 + r.IntN(9)
		return "part " + strconv.Itoa(long) + " " + r.number(0, 1) + " " + r.joints(long)
	case 1:
		return "mark " + r.number(0, len(r.s.Makers[0])-1) + " " + strconv.Itoa(1+r.IntN(31)|r.IntN(31))
	case 2:
		return "horse " + r.number(1, 9) + " " + r.number(1, 9) + " " + r.number(4, 16)
	}
	caps := r.among("-", r.number(0, 200), r.number(0, 999))
	return "job " + r.name() + " " + r.number(0, len(r.s.Makers[0])-1) + " " + r.spanned(0, 20, 3) + " " + r.spanned(0, 99, 4) + " " + caps
}

// ask returns a line that asks, if it is right.
func (r sayer) ask() string {
	switch word := wellSaid[4+r.IntN(len(wellSaid)-4)]; strings.Fields(word)[0] {
	case "spots":
		return "spots " + r.number(0, len(r.s.Planks)-1) + " " + r.number(0, 2)
	case "needs":
		return "needs " + r.number(0, len(r.s.Makers)-1)
	case "changed":
		return "changed " + r.number(0, len(r.s.Makers)-1) + " " + r.number(0, len(r.s.Makers[0])-1)
	case "values":
		return "values " + r.number(0, len(r.s.Makers[0])-1)
	case "left":
		return "left " + r.number(0, len(r.s.Hanks)-1)
	case "dye":
		return "dye " + r.number(0, 1)
	case "buy":
		return "buy " + r.number(0, 20)
	case "cost", "raise":
		return strings.Fields(word)[0] + " " + r.number(0, 1)
	case "can", "made":
		return strings.Fields(word)[0] + " " + r.number(0, 300)
	case "pay":
		return "pay " + r.number(0, 600)
	case "jobs":
		return "jobs " + r.name()
	default:
		return word
	}
}

// line returns a line of some kind; now and then a byte of it is wrong.
func (r sayer) line() string {
	line := r.change()
	if r.IntN(2) == 0 {
		line = r.ask()
	}
	if r.IntN(25) > 0 || line == "" {
		return line
	}
	at := r.IntN(len(line))
	return line[:at] + r.among("", " ", "-", "0", "x", "\n", "\t", line[at:]) + line[at+r.IntN(2):]
}

// allAsked are lines that ask everything of a setup that can be told apart.
func allAsked(s api.ForemanSetup) []string {
	l := []string{"fewest", "most", "look", "who", "seek", "best", "off", "bill", "loss", "dear"}
	for n := range 6 {
		for _, word := range []string{"needs", "values", "left", "dye", "cost", "raise"} {
			l = append(l, word+" "+strconv.Itoa(n))
		}
		for k := range 6 {
			l = append(l, "spots "+strconv.Itoa(n)+" "+strconv.Itoa(k), "changed "+strconv.Itoa(n)+" "+strconv.Itoa(k))
		}
	}
	for n := 0; n <= 600; n += 60 {
		l = append(l, "can "+strconv.Itoa(n), "made "+strconv.Itoa(n), "pay "+strconv.Itoa(n))
	}
	for _, name := range append([]string{"nobody"}, s.Names...) {
		l = append(l, "jobs "+name)
	}
	return append(l, "buy 5", "buy 21")
}

// bookOf returns of which books a line's answer is, by the words of those that change them.
func bookOf(line string) string {
	switch strings.Fields(line)[0] {
	case "fewest", "most", "look", "spots":
		return "part"
	case "who", "seek", "needs", "values", "changed":
		return "mark"
	case "best", "off", "left", "dye", "buy":
		return "horse"
	case "jobs", "pay":
		return "job"
	}
	return "job mark"
}
