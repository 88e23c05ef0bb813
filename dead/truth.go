package dead

import (
	"iter"

	"clavendier/api"
)

// stranger stands for the person of a find that is none of the people.
const stranger = -1

// people is of which people something is so.
type people [api.DeadPeople]bool

// match is a find, and the person that it is.
type match struct{ find, person int }

// truth is the person of each find of a truth, or of the first ones.
type truth []int

// match returns the match of a find.
func (t truth) match(find int) match { return match{find, t[find]} }

// taken returns who is taken already.
func (t truth) taken() people {
	var taken people
	for find := range len(t) {
		if m := t.match(find); m != (match{find, stranger}) {
			taken[m.person] = true
		}
	}
	return taken
}

// strangers returns how many finds are strangers.
func (t truth) strangers() int {
	n, taken := len(t), t.taken()
	if taken == (people{}) {
		return n
	}
	for _, is := range taken {
		if is {
			n--
		}
	}
	return n
}

// book is a book, and for each find which people it can be.
type book struct {
	api.DeadBook
	could [api.DeadFinds]people
}

// compared returns a valid book of which each find has been compared with each person.
func compared(b api.DeadBook) book {
	c := book{DeadBook: b}
	for find := range len(b.Finds) {
		c.could[find] = c.those(found{b.Finds[find], b.Ear}.can)
	}
	return c
}

// those returns the people of whom something is so.
func (b book) those(is func(p api.DeadPerson) bool) people {
	var some people
	for person, p := range b.People {
		some[person] = is(p)
	}
	return some
}

// allows reports whether the find behind the first ones, of which t tells, can be this person with them.
func (b book) allows(t truth, person int) bool {
	if person == stranger {
		return t.strangers() < b.Strangers
	}
	return within(person, 0, len(b.People)-1) && b.could[len(t)][person] && !t.taken()[person]
}

// isTruth reports whether a list is a truth.
func (b book) isTruth(who []int) bool {
	if len(who) != len(b.Finds) {
		return false
	}
	for find, person := range who {
		if !b.allows(who[:find:find], person) {
			return false
		}
	}
	return true
}

// truths yields all truths, each once.
func (b book) truths() iter.Seq[truth] {
	return func(yield func(truth) bool) {
		var give func(t truth) bool
		give = func(t truth) bool {
			if len(t) == len(b.Finds) {
				return yield(t)
			}
		persons:
			for person := stranger; person < len(b.People); person++ {
				if !b.allows(t, person) {
					continue persons
				}
				// Without room behind t, so that no two truths share what is appended.
				if !give(append(t[:len(t):len(t)], person)) {
					return false
				}
			}
			return true
		}
		give(nil)
	}
}
