package cellarer

import "clavendier/api"

// townOf returns the number of the town of a line.
func (s state) townOf(l line) int {
	for t := range len(s.towns) {
		if s.towns[t] == l.town {
			return t
		}
	}
	panic(api.ErrCellarerUnknown)
}

// mustBe refuses a number that is not from low to high.
func mustBe(n, low, high int) { refuse(!within(n, low, high), api.ErrRange) }

// span returns the span of two numbers, of which the greater one is at most most.
func span(low, high, most int) api.Span {
	mustBe(high, low, most)
	return api.Span{Low: low, High: high}
}

// just returns what is known once a number, of which s was known, is n.
func just(s api.Span, n int) api.Span {
	one := api.Span{Low: n, High: n}
	both := api.Span{Low: max(s.Low, n), High: min(s.High, n)}
	refuse(both != one, api.ErrCellarerFalse)
	return one
}

// goOn goes on to a night.
func (s state) goOn(l line) state {
	mustBe(l.numbers[0], s.night, s.nights-1)
	s.night = l.numbers[0]
	return s
}

// sleep adds a line to the list of a brother.
func (s state) sleep(l line) state {
	t, brother := s.townOf(l), l.numbers[0]
	mustBe(brother, 0, 1)
	refuse(len(s.lines) == api.HouseLines, api.ErrFull)
	s.lines = lengthened(s.lines, api.HouseLine{Brother: brother, Night: s.night, Town: t, Heard: l.heard})
	return s.right()
}

// serve says how many bowls were given in the present night.
func (s state) serve(l line) state {
	s.bowls[s.night] = span(l.numbers[0], l.numbers[1], api.HouseBowls)
	return s.right()
}

// pay adds to what a town has paid.
func (s state) pay(l line) state {
	t, n := s.townOf(l), l.numbers[0]
	mustBe(n, 1, api.TownPaid-s.paid[t])
	s.paid[t] += n
	return s
}

// say takes down what a town says of its nights.
func (s state) say(l line) state {
	t := s.townOf(l)
	s.says[t] = span(l.numbers[0], l.numbers[1], api.TownSays)
	return s.right()
}

// came takes down when a mule came, and with how much.
func (s state) came(l line) state {
	mule, week, load := l.numbers[0], l.numbers[1], l.numbers[2]
	mustBe(mule, 0, len(s.store.Mules)-1)
	mustBe(week, 0, lastWeek)
	mustBe(load, 0, api.StoreLoad)
	m := s.store.Mules[mule]
	m.Week, m.Load = just(m.Week, week), just(m.Load, load)
	s.store.Mules = replaced(s.store.Mules, mule, m)
	return s
}

// count takes down how much of a good there was at first.
func (s state) count(l line) state {
	good, have := l.numbers[0], l.numbers[1]
	mustBe(good, 0, len(s.store.Goods)-1)
	mustBe(have, 0, api.StoreRoom)
	g := s.store.Goods[good]
	g.Have = just(g.Have, have)
	s.store.Goods = replaced(s.store.Goods, good, g)
	return s
}

// saw takes down that the slope did not let go.
func (s state) saw(l line) state { return s.sight(l, false) }

// fell takes down that the slope let go.
func (s state) fell(l line) state { return s.sight(l, true) }

// sight takes down what was seen of the slope.
func (s state) sight(l line, fell bool) state {
	hour := l.numbers[0]
	mustBe(hour, 0, len(s.slope.Hours)-1)
	load := span(l.numbers[1], l.numbers[2], api.SlopeLoad)
	refuse(len(s.slope.Sights) == api.SlopeSights, api.ErrFull)
	s.slope.Sights = lengthened(s.slope.Sights, api.SlopeSight{Hour: hour, Fell: fell, Load: load})
	return s.seen()
}
