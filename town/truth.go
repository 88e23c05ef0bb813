package town

import (
	"iter"
	"slices"

	"clavendier/api"
	"clavendier/house"
)

// book is a book, and all pairs of lines of its house that can be of one guest.
type book struct {
	api.TownBook
	could []api.NamePair
}

// compared returns a valid book of which the lines have been compared.
func compared(b api.TownBook) book {
	c := book{TownBook: b}
	for one, l := range b.House.Lines {
		for other, m := range b.House.Lines {
			if l.Brother == 0 && m.Brother == 1 {
				if can, _ := house.Can(b.House, one, other); can {
					c.could = append(c.could, api.NamePair{One: one, Other: other})
				}
			}
		}
	}
	return c
}

// truths yields all truths of the house, each once.
func (b book) truths() iter.Seq[[]api.NamePair] {
	return func(yield func([]api.NamePair) bool) {
		var pair func(line int, t []api.NamePair) bool
		pair = func(line int, t []api.NamePair) bool {
			if line == len(b.House.Lines) {
				return !b.fits(t) || yield(t)
			}
			if !pair(line+1, t) {
				return false
			}
		others:
			for other := range b.House.Lines {
				if !slices.Contains(b.could, api.NamePair{One: line, Other: other}) {
					continue others
				}
				for _, p := range t {
					if p.Other == other {
						continue others
					}
				}
				// Without room behind t, so that no two truths share what is appended.
				if !pair(line+1, append(t[:len(t):len(t)], api.NamePair{One: line, Other: other})) {
					return false
				}
			}
			return true
		}
		pair(0, nil)
	}
}

// fits reports whether with these pairs there are in each night as many guests as a number of its bowls.
func (b book) fits(pairs []api.NamePair) bool {
	var guests [api.HouseNights]int
	for _, l := range b.House.Lines {
		guests[l.Night]++
	}
	for _, p := range pairs {
		guests[b.House.Lines[p.One].Night]--
	}
	for night, bowls := range b.House.Bowls {
		if !within(guests[night], bowls.Low, bowls.High) {
			return false
		}
	}
	return true
}

// nights returns how many nights each town has with these pairs.
func (b book) nights(pairs []api.NamePair) each {
	var n each
	for _, l := range b.House.Lines {
		n[l.Town]++
	}
	for _, p := range pairs {
		n[b.House.Lines[p.One].Town]--
	}
	return n
}
