package name

import (
	"iter"
	"slices"

	"clavendier/api"
)

// books are the books of both refuges, and for each line of the book 0 the lines that can be of one person with it.
type books struct {
	api.NameBook
	could [api.NameLines][]int
}

// compared returns books whose lines have been compared.
func compared(b api.NameBook) books {
	c := books{NameBook: b}
	for one, l := range b.Lines {
		for other := range b.Lines {
			if l.Book == 0 && c.can(one, other) {
				c.could[one] = append(c.could[one], other)
			}
		}
	}
	return c
}

// reason is why two lines cannot be of one person.
type reason struct {
	applies func(b books, one, other api.NameLine) bool
}

// reasons returns all reasons why two lines cannot be of one person.
func reasons() [3]reason {
	return [...]reason{{books.inOneBook}, {books.offTheWay}, {books.heardApart}}
}

// inOneBook reports whether two lines are of one book, in which nobody stands twice.
func (b books) inOneBook(one, other api.NameLine) bool { return one.Book == other.Book }

// offTheWay reports whether nobody takes as long as lies between two lines.
func (b books) offTheWay(one, other api.NameLine) bool {
	later := one.Minute - other.Minute
	return !within(greatest(later, -later), b.Way.Low, b.Way.High)
}

// heardApart reports whether the names of two lines are not heard as one.
func (b books) heardApart(one, other api.NameLine) bool {
	_, asOne := ear{b.Ear}.apart(one.Heard, other.Heard)
	return !asOne
}

// can reports whether two lines can be of one person.
func (b books) can(one, other int) bool {
	for _, r := range reasons() {
		if r.applies(b, b.Lines[one], b.Lines[other]) {
			return false
		}
	}
	return true
}

// truths yields all truths, each once.
func (b books) truths() iter.Seq[truth] {
	return func(yield func(truth) bool) {
		var pair func(one int, t truth) bool
		pair = func(one int, t truth) bool {
			if one == len(b.Lines) {
				// With too many lines lost this is no truth, but another one may follow.
				return b.lost(t) > b.Lost || yield(t[:len(t):len(t)])
			}
		others:
			for _, other := range b.could[one] {
				for _, p := range t {
					if p.Other == other {
						continue others
					}
				}
				if !pair(one+1, append(t[:len(t):len(t)], api.NamePair{One: one, Other: other})) {
					return false
				}
			}
			return pair(one+1, t)
		}
		pair(0, nil)
	}
}

// lost returns how many lines are in no pair of a truth.
func (b books) lost(t truth) int {
	paired := t.paired()
	if paired == (lines{}) {
		return len(b.Lines)
	}
	n := 0
	for line := range len(b.Lines) {
		if !paired[line] {
			n++
		}
	}
	return n
}

// areTrue reports whether pairs are a truth.
func (b books) areTrue(pairs []api.NamePair) bool {
	for t := range b.truths() {
		if slices.Equal(t, pairs) {
			return true
		}
	}
	return false
}

// without returns books without some lines.
func (b books) without(out []int) books {
	rest := b.NameBook
	rest.Lines = nil
	for i, l := range b.Lines {
		if !slices.Contains(out, i) {
			rest.Lines = append(rest.Lines, l)
		}
	}
	return compared(rest)
}

// canBeTrue reports whether there is a truth.
func (b books) canBeTrue() bool {
	for range b.truths() {
		return true
	}
	return false
}

// wrong returns the fewest lines without which there is a truth, the first ones of several.
func (b books) wrong() []int {
	for size := range len(b.Lines) + 1 {
		for out := range lists(size, len(b.Lines)) {
			if b.without(out).canBeTrue() {
				return out
			}
		}
	}
	return nil
}
