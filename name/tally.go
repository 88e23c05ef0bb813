package name

import "clavendier/api"

// In how many truths two lines are a pair.
const (
	inNone = iota
	inSome
	inEach
)

// tally is what was counted of all truths of books: how many people there are in each, and in how many of them a line has a match.
type tally struct {
	books   books
	people  []int
	matches map[match]int
}

// counted counts all truths of books.
func counted(b books) tally {
	c := tally{books: b, matches: map[match]int{}}
	for t := range b.truths() {
		c.people = append(c.people, len(b.Lines)-len(t))
		for line := range len(b.Lines) {
			c.matches[t.match(line)]++
		}
	}
	return c
}

// truths returns how many truths there are.
func (c tally) truths() int { return len(c.people) }

// end is an end of the number of people: which one is looked for of those of all truths.
type end struct {
	of func(one int, more ...int) int
}

// find returns the end of the number of people; there must be a truth.
func (c tally) find(e end) int { return e.of(c.people[0], c.people[1:]...) }

// kind returns in how many truths two lines are a pair; there must be a truth.
func (c tally) kind(one, other int) int {
	switch c.matches[match{one, other}] {
	case c.truths():
		return inEach
	case 0:
		return inNone
	}
	return inSome
}

// joined returns all pairs that are in each truth.
func (c tally) joined() []api.NamePair {
	var list []api.NamePair
	for one, could := range c.books.could {
		for _, other := range could {
			if c.kind(one, other) == inEach {
				list = append(list, api.NamePair{One: one, Other: other})
			}
		}
	}
	return list
}

// left returns how many truths are left at the worst once the match of a line is known.
func (c tally) left(line int) int {
	worst := 0
	for m, n := range c.matches {
		if m.line == line {
			worst = greatest(worst, n)
		}
	}
	return worst
}

// ask returns the first line of which the match leaves the fewest truths at the worst.
func (c tally) ask() int {
	best := 0
	for line := range len(c.books.Lines) {
		if c.left(line) < c.left(best) {
			best = line
		}
	}
	return best
}
