package foreman_test

import (
	"math/rand/v2"
	"reflect"
	"slices"
	"strconv"
	"strings"
	"testing"

	"skewbald/api"
	"skewbald/foreman"
	"skewbald/hair"
	"skewbald/maker"
	"skewbald/plank"
)

// enough checks that each of some cases was met often enough for a test to tell something.
func enough(t *testing.T, counts map[string]int, least int, cases ...string) {
	t.Helper()
	for _, c := range cases {
		if counts[c] < least {
			t.Errorf("%s: %d times", c, counts[c])
		}
	}
}

// isKept reports whether a foreman keeps just what the model does.
func isKept(f *foreman.Foreman, m model) bool {
	samePart := func(p, q api.PlankShape) bool {
		return p.Long == q.Long && p.Turns == q.Turns && slices.Equal(p.Joints, q.Joints)
	}
	k := keptBy(f)
	return slices.EqualFunc(k.parts, m.parts, samePart) && slices.Equal(k.marks, m.marks) && slices.Equal(k.horses, m.horses) && slices.Equal(k.jobs, m.jobs) && slices.Equal(k.journal, m.lines) && k.file == m.file()
}

// days calls a test with each line of some random days, and the foreman and the model before it; the test lets the foreman do the line.
func days(t *testing.T, seed uint64, many, lines int, test func(f *foreman.Foreman, m model, line string)) {
	t.Helper()
	for i, s := range setups(seed, many) {
		f, m := made(t, s), model{s: s}
		r := sayer{rand.New(rand.NewPCG(seed, uint64(i))), s}
		for range lines {
			line := r.line()
			test(f, m, line)
			m, _, _ = m.do(line)
		}
	}
}

// P11.2, P11.3, P11.7, P11.8: the reference finds the same answers and errors, and keeps the same.
func TestLikeTheReference(t *testing.T) {
	counts := map[string]int{}
	days(t, 1, 400, 60, func(f *foreman.Foreman, m model, line string) {
		then, answer, e := m.do(line)
		if a, k := f.Do(line); a != answer || k != e {
			t.Errorf("%q behind %q: %q, %d, but %q, %d", line, m.lines, a, k, answer, e)
		}
		if !isKept(f, then) {
			t.Errorf("%q behind %q: %v is kept", line, m.lines, keptBy(f))
		}
		word, _, _ := read(line)
		counts[word+" "+strconv.Itoa(int(e))]++
		if answer == "-" {
			counts[word+" -"]++
		}
	})
	for word := range forms {
		enough(t, counts, 60, word+" 0")
	}
	enough(t, counts, 500, " 110")
	enough(t, counts, 20, "part 7", "mark 7", "horse 7", "job 7", "part 6", "horse 6", "job 6", "part 112", "mark 112", "horse 112", "job 111", "jobs 111", "spots 4", "fewest 4", "most 4", "look 4", "cost 4", "bill 4", "loss 4", "can 4", "made 4", "dear 4", "raise 4", "pay 4", "needs 4", "changed 4", "seek 4", "spots 7", "cost 7", "raise 7", "left 7", "dye 7", "jobs -", "best -", "made -", "spots -")
	enough(t, counts, 5, "mark 6", "needs 7", "changed 7", "values 7", "buy 7", "pay 7")
}

// P1: any text is a line that is done, or an error.
func TestAnyText(t *testing.T) {
	r := rand.New(rand.NewPCG(2, 11))
	tokens := []string{"part", "mark", "horse", "job", "jobs", "spots", "dye", "who", "anna", "bruno", "-", "0", "1", "2", "4", "99999", "00", "", "x", "\n", "\xff"}
	for i, s := range setups(2, 60) {
		f, m := made(t, s), model{s: s}
		for range 300 {
			var l []string
			for range 1 + r.IntN(8) {
				l = append(l, tokens[r.IntN(len(tokens))])
			}
			line := strings.Join(l, " ")
			if i%2 == 0 {
				b := make([]byte, r.IntN(12))
				for n := range b {
					b[n] = byte(r.IntN(256))
				}
				line = tokens[r.IntN(8)] + string(b)
			}
			var answer string
			var e api.Errno
			m, answer, e = m.do(line)
			if a, k := f.Do(line); a != answer || k != e || !isKept(f, m) {
				t.Errorf("%q: %q, %d, but %q, %d", line, a, k, answer, e)
			}
		}
	}
}

// P11.4: the reference opens the same files, up to the same line, with the same error.
func TestOpenLikeTheReference(t *testing.T) {
	counts := map[string]int{}
	for i, s := range setups(3, 2500) {
		r := sayer{rand.New(rand.NewPCG(3, uint64(i))), s}
		m, file := model{s: s}, ""
		for range r.IntN(24) {
			line := r.change()
			// Most lines are right, so that files are opened far enough.
			then, _, e := m.do(line)
			if e != api.OK && r.IntN(12) > 0 {
				continue
			}
			m = then
			file += line + "\n"
			if r.IntN(40) == 0 {
				file += r.line() + "\n"
			}
		}
		if file != "" && r.IntN(20) == 0 {
			file = file[:len(file)-1]
		}
		want, wantedAt, wanted := open(s, file)
		f, at, e := foreman.Open(s, file)
		if at != wantedAt || e != wanted || (f != nil) != (e == api.OK) {
			t.Errorf("Open %q: %d, %d, but %d, %d", file, at, e, wantedAt, wanted)
		}
		if f != nil && (!isKept(f, want) || f.File() != file) {
			t.Errorf("Open %q: %v is kept", file, keptBy(f))
		}
		counts[strconv.Itoa(int(e))]++
		if at > 2 && e != api.OK {
			counts["farther on"]++
		}
	}
	enough(t, counts, 10, "0", "5", "6", "7", "110", "111", "112", "farther on")
}

// answers returns what a foreman answers to all that can be asked.
func answers(f *foreman.Foreman, s api.ForemanSetup) map[string]said {
	all := map[string]said{}
	for _, l := range allAsked(s) {
		a, e := f.Do(l)
		all[l] = said{l, a, e}
	}
	return all
}

// P11.6: a foreman that is opened from the file of another one is the same, at each line of a year, and goes on like it.
func TestAYearIsMadeAgain(t *testing.T) {
	counts := map[string]int{}
	days(t, 4, 20, 40, func(f *foreman.Foreman, m model, line string) {
		g, n, e := foreman.Open(m.s, f.File())
		if e != api.OK || n != len(m.lines) || !reflect.DeepEqual(keptBy(f), keptBy(g)) {
			t.Fatalf("Open %q: %d, %d", f.File(), n, e)
		}
		if !reflect.DeepEqual(answers(f, m.s), answers(g, m.s)) {
			t.Errorf("Open %q: other answers", f.File())
		}
		a, e := f.Do(line)
		if b, k := g.Do(line); a != b || e != k || f.File() != g.File() {
			t.Errorf("%q behind %q: %q, %d, but %q, %d", line, m.lines, a, e, b, k)
		}
		counts[strconv.Itoa(len(m.lines)/5)]++
	})
	enough(t, counts, 50, "0", "1", "2")
}

// P11.7: behind a line that is an error, or asks, all is as it was, and all answers are.
func TestErrorsChangeNothing(t *testing.T) {
	counts := map[string]int{}
	days(t, 5, 20, 50, func(f *foreman.Foreman, m model, line string) {
		before, asked := keptBy(f), answers(f, m.s)
		if !reflect.DeepEqual(keptBy(f), before) {
			t.Errorf("behind %q: the questions changed something", m.lines)
		}
		_, e := f.Do(line)
		isChanged := e == api.OK && changes(line)
		if now := keptBy(f); isChanged == reflect.DeepEqual(now, before) || isChanged && !slices.Equal(now.journal, append(before.journal, line)) {
			t.Errorf("%q behind %q: %v", line, m.lines, now)
		}
		if !isChanged && !reflect.DeepEqual(answers(f, m.s), asked) {
			t.Errorf("%q behind %q: other answers", line, m.lines)
		}
		counts[strconv.Itoa(int(e))+" "+strconv.FormatBool(isChanged)]++
	})
	enough(t, counts, 10, "0 true", "0 false", "4 false", "6 false", "7 false", "110 false", "111 false", "112 false")
}

// P11.8: behind each line all parts can be cut, somebody can have made the horse, and all horses are surely served.
func TestThereIsWoodAMakerAndHair(t *testing.T) {
	counts := map[string]int{}
	days(t, 6, 200, 60, func(f *foreman.Foreman, m model, line string) {
		f.Do(line)
		s := m.s
		if l := f.Parts(); len(l) > 0 {
			if _, e := plank.Fewest(api.PlankBook{Planks: s.Planks, Parts: l}); e != api.OK {
				t.Errorf("%q behind %q: there is no wood, %d", line, m.lines, e)
			}
		}
		if l, e := maker.Who(api.MakerBook{Makers: s.Makers, Seen: f.Marks(), Repairs: s.Repairs, Fixed: s.Fixed}); e != api.OK || len(l) == 0 {
			t.Errorf("%q behind %q: there is no maker, %d", line, m.lines, e)
		}
		if _, e := hair.Best(api.HairBook{Hanks: s.Hanks, Horses: f.Horses(), Dark: s.Dark, Near: s.Near, Match: s.Match}); e != api.OK {
			t.Errorf("%q behind %q: there is no hair, %d", line, m.lines, e)
		}
		counts["parts"] += len(f.Parts())
		counts["marks"] += len(f.Marks())
		counts["horses"] += len(f.Horses())
	})
	enough(t, counts, 1000, "parts", "marks", "horses")
}

// P11.9: a line of one book changes nothing that is answered of another one, but marks are in both the books of layers 5 and 8.
func TestEachBookForItself(t *testing.T) {
	counts := map[string]int{}
	days(t, 7, 20, 60, func(f *foreman.Foreman, m model, line string) {
		before := answers(f, m.s)
		if _, e := f.Do(line); e != api.OK || !changes(line) {
			return
		}
		word := strings.Fields(line)[0]
		for asked, now := range answers(f, m.s) {
			books := strings.Fields(bookOf(asked))
			switch {
			case now == before[asked]:
			case slices.Contains(books, word):
				counts[word+" changes "+strings.Join(books, " ")]++
			default:
				t.Errorf("%q behind %q: %q: %q, %d, before %q, %d", line, m.lines, asked, now.answer, now.e, before[asked].answer, before[asked].e)
			}
		}
	})
	enough(t, counts, 20, "part changes part", "mark changes mark", "mark changes job mark", "horse changes horse", "job changes job", "job changes job mark")
}

// P11.10: a mark more leaves no maker that was not possible before; a part more needs no fewer planks.
func TestOneMore(t *testing.T) {
	counts := map[string]int{}
	days(t, 8, 300, 60, func(f *foreman.Foreman, m model, line string) {
		who, _ := f.Do("who")
		fewest, _ := f.Do("fewest")
		answer, e := f.Do(line)
		if e != api.OK {
			return
		}
		switch now := strings.Fields(answer); strings.Fields(line)[0] {
		case "mark":
			for _, maker := range now {
				if !slices.Contains(strings.Fields(who), maker) {
					t.Errorf("%q behind %q: %s, before %s", line, m.lines, answer, who)
				}
			}
			if len(now) < len(strings.Fields(who)) {
				counts["fewer makers"]++
			}
		case "part":
			if len(now) < len(strings.Fields(fewest)) {
				t.Errorf("%q behind %q: %s, before %s", line, m.lines, answer, fewest)
			}
			if fewest != "" && len(now) > len(strings.Fields(fewest)) {
				counts["more planks"]++
			}
		}
	})
	enough(t, counts, 40, "fewer makers", "more planks")
}

// P11.11: each job is one customer's: that of its line.
func TestEachJobIsOneCustomers(t *testing.T) {
	counts := map[string]int{}
	days(t, 9, 200, 60, func(f *foreman.Foreman, m model, line string) {
		f.Do(line)
		times := make([]int, len(f.Jobs()))
		var payers []string
		for _, l := range f.Journal() {
			if tokens := strings.Fields(l); tokens[0] == "job" {
				payers = append(payers, tokens[1])
			}
		}
		for _, name := range m.s.Names {
			answer, e := f.Do("jobs " + name)
			if e != api.OK {
				t.Errorf("jobs %s: %d", name, e)
			}
			for _, token := range strings.Fields(strings.TrimPrefix(answer, "-")) {
				job, _ := strconv.Atoi(token)
				times[job]++
				if payers[job] != name {
					t.Errorf("behind %q: the job %d is %s's", f.Journal(), job, name)
				}
			}
			counts[strconv.Itoa(len(strings.Fields(strings.TrimPrefix(answer, "-"))))]++
		}
		if slices.ContainsFunc(times, func(n int) bool { return n != 1 }) {
			t.Errorf("behind %q: %v", f.Journal(), times)
		}
	})
	enough(t, counts, 100, "0", "1", "2", "3")
}

// P2: the same lines have the same answers, whatever other foremen did.
func TestTheSameAgain(t *testing.T) {
	days(t, 10, 60, 40, func(f *foreman.Foreman, m model, line string) {
		g := made(t, m.s, m.lines...)
		a, e := f.Do(line)
		if b, k := g.Do(line); a != b || e != k || !reflect.DeepEqual(keptBy(f), keptBy(g)) {
			t.Errorf("%q behind %q: %q, %d, but %q, %d", line, m.lines, a, e, b, k)
		}
	})
}
