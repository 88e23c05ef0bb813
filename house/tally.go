package house

import "clavendier/api"

// guests is the first one of counts, behind which there is one for each town.
const guests = 0

// guestsOf returns which one of counts is that of a town.
func guestsOf(town int) int { return 1 + town }

// count is what is counted in a truth of a night.
type count struct {
	of   func(n night, t truth, town int) int
	town int
}

// counts returns all that is counted: the guests, and those of each town.
func counts() [1 + api.HouseTowns]count {
	return [...]count{{night.guests, 0}, {night.heads, 0}, {night.heads, 1}, {night.heads, 2}, {night.heads, 3}}
}

// end is an end of what was counted: which number is looked for of those of all truths.
type end struct {
	of func(one int, more ...int) int
}

// tally is what was counted of all truths of a night: all of counts in each of them, and in how many of them a line has a match.
type tally struct {
	counted [1 + api.HouseTowns][]int
	matches map[match]int
}

// tally counts all truths of the night.
func (n night) tally() tally {
	c := tally{matches: map[match]int{}}
	for t := range n.truths() {
		for what, x := range counts() {
			c.counted[what] = append(c.counted[what], x.of(n, t, x.town))
		}
		for _, line := range n.lines() {
			c.matches[t.match(line)]++
		}
	}
	return c
}

// truths returns how many truths there are of the night.
func (c tally) truths() int { return len(c.counted[guests]) }

// find returns the end of one of counts; there must be a truth.
func (c tally) find(what int, e end) int {
	list := c.counted[what]
	return e.of(list[0], list[1:len(list):len(list)]...)
}

// isSure reports whether a match is in each truth of the night.
func (c tally) isSure(m match) bool { return c.matches[m] == c.truths() }

// left returns how many truths of the night are left at the worst once the match of a line is known.
func (c tally) left(line int) int {
	worst := 0
	for m, n := range c.matches {
		if m.line == line {
			worst = greatest(worst, n)
		}
	}
	return worst
}

// spanOf returns between what lies one of counts in all of these nights: what is said of one says nothing of another one, so that their ends add up.
func spanOf(what int, nights []tally) api.Span {
	var s api.Span
	for _, c := range nights {
		s.Low += c.find(what, end{least[int]})
		s.High += c.find(what, end{greatest[int]})
	}
	return s
}

// tallies is a house, and what was counted of each of its nights.
type tallies struct {
	house
	nights []tally
}

// counted counts all truths of each night of a house.
func counted(h house) tallies {
	c := tallies{house: h}
	for number := range len(h.Bowls) {
		c.nights = append(c.nights, h.night(number).tally())
	}
	return c
}

// truths returns how many truths there are: each one of a night with each one of all other nights.
func (c tallies) truths() int {
	n := 1
	for _, night := range c.nights {
		n *= night.truths()
	}
	return n
}

// twice returns all pairs that are in each truth.
func (c tallies) twice() []api.NamePair {
	var list []api.NamePair
	for one, l := range c.Lines {
		for other := range c.Lines {
			if l.Brother == 0 && c.nights[l.Night].isSure(match{one, other}) {
				list = append(list, api.NamePair{One: one, Other: other})
			}
		}
	}
	return list
}

// beds returns the greatest number of guests of any night.
func (c tallies) beds() int {
	n := 0
	for _, night := range c.nights {
		n = greatest(n, night.find(guests, end{greatest[int]}))
	}
	return n
}

// wrong returns all nights without a truth.
func (c tallies) wrong() []int {
	var list []int
	for number, night := range c.nights {
		if night.truths() == 0 {
			list = append(list, number)
		}
	}
	return list
}

// left returns how many truths are left at the worst once the match of a line is known; there must be a truth.
func (c tallies) left(line int) int {
	night := c.nights[c.Lines[line].Night]
	return night.left(line) * (c.truths() / night.truths())
}

// ask returns the first line of which the match leaves the fewest truths at the worst; there must be a line.
func (c tallies) ask() int {
	best := 0
	for line := range len(c.Lines) {
		if c.left(line) < c.left(best) {
			best = line
		}
	}
	return best
}
