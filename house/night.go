package house

import (
	"iter"
	"slices"

	"clavendier/api"
)

// night is a night of a house, with its lines of each brother.
type night struct {
	house
	number int
	lists  [2][]int
}

// night returns the night of a number.
func (h house) night(number int) night {
	n := night{house: h, number: number}
	for i, l := range h.Lines {
		if l.Night == number {
			n.lists[l.Brother] = append(n.lists[l.Brother], i)
		}
	}
	return n
}

// lines returns all lines of the night.
func (n night) lines() []int { return slices.Concat(n.lists[0], n.lists[1]) }

// guests returns how many guests there are in a truth of the night, from whichever town.
func (n night) guests(t truth, _ int) int { return t.guests(n.lines()) }

// heads returns how many guests of a town there are in a truth of the night.
func (n night) heads(t truth, town int) int {
	return t.guests(slices.DeleteFunc(n.lines(), func(line int) bool { return n.Lines[line].Town != town }))
}

// fits reports whether so many guests as there are with these pairs are a number of the bowls.
func (n night) fits(t truth) bool {
	bowls := n.Bowls[n.number]
	return within(n.guests(t, 0), bowls.Low, bowls.High)
}

// truths yields all truths of the night, each once.
func (n night) truths() iter.Seq[truth] {
	return func(yield func(truth) bool) {
		for t := range pairings(n.lists[0], n.lists[1], n.can) {
			if n.fits(t) && !yield(t) {
				return
			}
		}
	}
}

// isTruth reports whether pairs are a truth of the night.
func (n night) isTruth(pairs truth) bool {
	for t := range n.truths() {
		if slices.Equal(t, pairs) {
			return true
		}
	}
	return false
}

// pairings yields all lists of pairs of a line of ones and a line of others that can be of one guest, no line in two of them.
func pairings(ones, others []int, can func(one, other int) bool) iter.Seq[truth] {
	return func(yield func(truth) bool) {
		var pair func(ones []int, t truth) bool
		pair = func(ones []int, t truth) bool {
			if len(ones) == 0 {
				return yield(t[:len(t):len(t)])
			}
		another:
			for _, other := range others {
				for _, p := range t {
					if p.Other == other {
						continue another
					}
				}
				if !can(ones[0], other) {
					continue another
				}
				if !pair(ones[1:], append(t[:len(t):len(t)], api.NamePair{One: ones[0], Other: other})) {
					return false
				}
			}
			return pair(ones[1:], t)
		}
		pair(ones, nil)
	}
}
