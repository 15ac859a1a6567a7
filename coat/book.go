package coat

import "skewbald/api"

// stage is how far the coats are at a time: the first coat that is not dry, its points, and whether it is laid. Once all coats are dry it is the one behind them.
type stage struct {
	coat, points int
	laid         bool
}

// waits reports whether the coat of a stage is not laid.
func (s stage) waits() bool { return s == stage{coat: s.coat} }

// isDry returns what asks whether a coat is dry.
func isDry(coat int) func(time int, s stage) bool {
	return func(_ int, s stage) bool { return s.coat > coat }
}

// book is a valid book in the calculation.
type book struct {
	api.CoatBook
}

// end returns the time that is the number of hours.
func (b *book) end() int { return len(b.Weather) }

// hasHand reports whether a hand is there in an hour. Before Start no hand is asked for.
func (b *book) hasHand(hour int) bool { return hour >= b.Start && b.Hands>>hour&1 == 1 }

// lays reports whether a coat is laid in an hour that begins with a stage.
func (b *book) lays(s stage, hour int) bool {
	return s.coat < len(b.Coats) && s.waits() && b.hasHand(hour)
}

// gainsIn returns what is gained in an hour that begins with a stage: nothing if no coat dries in it.
func (b *book) gainsIn(s stage, hour int) gains {
	if s.laid || b.lays(s, hour) {
		return b.Coats[s.coat].Gain
	}
	return gains{}
}

// after returns the stage behind an hour in which so much is gained.
func (b *book) after(s stage, hour, gain int) stage {
	s.laid = s.laid || b.lays(s, hour)
	s.points += gain
	if s.laid && s.points >= b.Coats[s.coat].Need {
		return stage{coat: s.coat + 1}
	}
	return s
}

// stages returns, for each time, the stages that are so in some truth.
func (b *book) stages() []map[stage]bool {
	can := make([]map[stage]bool, b.end()+1)
	for time := range can {
		can[time] = map[stage]bool{}
	}
	var follow func(s stage, time int)
	follow = func(s stage, time int) {
		// Many truths lead to one stage: without this they would be followed again and again.
		if can[time][s] {
			return
		}
		can[time][s] = true
		if time == b.end() {
			return
		}
		g := b.gainsIn(s, time)
		if g == (gains{}) {
			follow(b.after(s, time, 0), time+1)
			return
		}
		for _, gain := range g.in(b.Weather[time]) {
			follow(b.after(s, time, gain), time+1)
		}
	}
	follow(stage{}, 0)
	return can
}

// layings returns all hours in which a coat is laid in some truth.
func (b *book) layings() []int {
	can, hand := b.stages(), b.hasHand
	var list []int
hours:
	for hour := range b.end() {
		if !hand(hour) {
			continue hours
		}
		for coat := range b.Coats {
			if can[hour][stage{coat: coat}] {
				list = append(list, hour)
				continue hours
			}
		}
	}
	n := len(list)
	return list[:n:n]
}

// startedAt returns the book with another Start.
func (b *book) startedAt(hour int) *book {
	c := *b
	c.Start = hour
	return &c
}

// latest returns the greatest Start with which all coats surely are dry at a time, and whether there is one. No coat is dry earlier if the first one is laid later, so that behind the first Start that is too late each one is.
func (b *book) latest(time int) (hour int, found bool) {
	allDry := isDry(len(b.Coats) - 1)
	for start := range b.end() {
		if b.startedAt(start).truth(worst).first(allDry) > time {
			break
		}
		hour, found = start, true
	}
	return hour, found
}

// span returns the first time at which something is so, at least and at most; ErrNone if it need not be so. In the best weather of each hour each coat is laid and dry as early as it can be, in the worst one as late.
func (b *book) span(so func(time int, s stage) bool) (api.Span, api.Errno) {
	low, high := b.truth(best).first(so), b.truth(worst).first(so)
	if high == tooLate {
		return api.Span{}, api.ErrNone
	}
	return api.Span{Low: low, High: high}, api.OK
}
