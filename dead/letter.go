package dead

import (
	"cmp"
	"slices"
)

// silent returns the book without all letters.
func (b book) silent() book {
	rest := b.DeadBook
	rest.Finds = slices.Clone(b.Finds)
	for find := range rest.Finds {
		rest.Finds[find].Letter = noLetter
	}
	return compared(rest)
}

// against returns all finds that cannot be whom they are in t, a truth without letters: their letters are wrong in it.
func (b book) against(t truth) []int {
	var list []int
	for find, person := range t {
		if person != stranger && !b.could[find][person] {
			list = append(list, find)
		}
	}
	return list
}

// wrong returns the fewest finds whose letters are wrong in a truth without letters, the first ones of several; false if there is no such truth.
func (b book) wrong() ([]int, bool) {
	var best []int
	found := false
	for t := range b.silent().truths() {
		list := b.against(t)
		if !found || fewerFirst(list, best) < 0 {
			best, found = list, true
		}
		if len(best) == 0 {
			break // fewer than none there are not
		}
	}
	return best, found
}

// fewerFirst compares two lists: the shorter one comes first, and of two of one length the first one.
func fewerFirst(one, other []int) int {
	return cmp.Or(cmp.Compare(len(one), len(other)), slices.Compare(one, other))
}
