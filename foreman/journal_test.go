package foreman

import (
	"slices"
	"testing"

	"skewbald/api"
)

// P11.2: a journal of 199 lines and of 200. No line can tell so many: each adds a thing, and there is room for 20. So the journal is filled from inside.
func TestFullJournal(t *testing.T) {
	f, e := New(api.ForemanSetup{
		Planks: []api.PlankWood{{Long: 5}},
		Makers: [][]int{{3}},
		Hanks:  []api.HairHank{{Weight: api.Span{Low: 9, High: 9}}},
		Extra:  []int{0},
		Coins:  []int{1},
		Names:  []string{"anna"},
	})
	if e != api.OK {
		t.Fatalf("New: %d", e)
	}
	f.journal = slices.Repeat([]string{"mark 0 31"}, api.ForemanJournal-1)
	want := func(line, answer string, e api.Errno) {
		t.Helper()
		if a, k := f.Do(line); a != answer || k != e {
			t.Errorf("%q: %q, %d", line, a, k)
		}
	}
	// With 199 lines each line is done, or has the error that it always has.
	want("job carl 0 0 0 0 0 -", "", api.ErrForemanUnknown)
	want("mark 0 32", "", api.ErrRange)
	want("mark 0 4", "", api.ErrForemanFalse)
	want("mark 0 1", "0", api.OK)
	if l := f.Journal(); len(l) != api.ForemanJournal || l[199] != "mark 0 1" {
		t.Errorf("the journal: %d", len(l))
	}
	// With 200 there is no room, whatever else is wrong with a line, as long as it has the form.
	for _, l := range []string{"part 1 0 - - -", "mark 0 1", "horse 1 1 0", "job anna 0 0 0 0 0 -", "job carl 0 0 0 0 0 -", "part 1 2 - - -", "mark 0 32", "mark 0 4", "part 6 0 - - -", "horse 9 9 0", "horse 0 0 0"} {
		want(l, "", api.ErrFull)
	}
	want("mark 0 01", "", api.ErrForemanLine)
	want("job carl 0 0 0 0 0", "", api.ErrForemanLine)
	// Lines that ask need no room.
	want("who", "0", api.OK)
	want("jobs anna", "-", api.OK)
	want("jobs carl", "", api.ErrForemanUnknown)
	want("fewest", "", api.ErrNone)
	want("needs 1", "", api.ErrRange)
	if len(f.Journal()) != api.ForemanJournal || len(f.Marks()) != 1 {
		t.Errorf("behind all of them: %d, %v", len(f.Journal()), f.Marks())
	}
}
