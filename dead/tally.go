package dead

import "clavendier/api"

// kind is a kind of truths: which of them are counted.
type kind struct {
	counts func(t truth) bool
}

// every is the kind of all truths.
func every() kind { return kind{func(truth) bool { return true }} }

// sparing is the kind of the truths in which a person is none of the finds.
func sparing(person int) kind {
	return kind{func(t truth) bool { return !t.taken()[person] }}
}

// count returns how many truths are of each of several kinds.
func (b book) count(kinds ...kind) []int {
	counts := make([]int, len(kinds))
	for t := range b.truths() {
		for i, k := range kinds {
			if k.counts(t) {
				counts[i]++
			}
		}
	}
	return counts
}

// living returns all people who are none of the finds in some truth.
func (b book) living() []int {
	var kinds []kind
	for person := range len(b.People) {
		kinds = append(kinds, sparing(person))
	}
	var list []int
	for person, n := range b.count(kinds...) {
		if n > 0 {
			list = append(list, person)
		}
	}
	return list
}

// tally is a book, how many truths it has, and in how many of them there is a match.
type tally struct {
	book
	all     int
	matches map[match]int
}

// counted counts all truths of a book.
func counted(b book) tally {
	c := tally{book: b, matches: map[match]int{}}
	for t := range b.truths() {
		c.all++
		for find := range len(t) {
			c.matches[t.match(find)]++
		}
	}
	return c
}

// who returns all people that a find is in some truth, a stranger first.
func (c tally) who(find int) []int {
	var list []int
	for person := stranger; person < len(c.People); person++ {
		if c.matches[match{find, person}] > 0 {
			list = append(list, person)
		}
	}
	return list
}

// known returns for each find the person that it is in each truth, and a stranger if there is none.
func (c tally) known() []int {
	var list []int
	for find := range len(c.Finds) {
		person := stranger
		if who := c.who(find); len(who) == 1 {
			person = who[0]
		}
		list = append(list, person)
	}
	return list
}

// left returns how many truths are left at the worst once it is known who a find is.
func (c tally) left(find int) int {
	left := make([]int, 0, 1+api.DeadPeople)
	for person := stranger; person < len(c.People); person++ {
		left = append(left, c.matches[match{find, person}])
	}
	return greatest(left[0], left[1:len(left):len(left)]...)
}

// ask returns the first find that leaves the fewest truths at the worst once it is known who it is; there must be a find.
func (c tally) ask() int {
	best := 0
	for find := range len(c.Finds) {
		if c.left(find) < c.left(best) {
			best = find
		}
	}
	return best
}
