package dog

import (
	"slices"

	"clavendier/api"
)

// never is how many days before any day a dog met somebody whom it did not meet: more than it can know a smell.
const never = api.MaxDay + 1

// bond is a dog and a person.
type bond struct{ dog, person int }

// book is a book in the calculation, with the days on which each dog met each person, and the sniffs at each trail.
type book struct {
	api.DogBook
	met    map[bond][]int
	sniffs [api.DogTrails][]sniff
}

// prepared returns a book that can be calculated with.
func prepared(b api.DogBook) book {
	c := book{DogBook: b, met: map[bond][]int{}}
	for i, m := range b.Meets {
		again := func(before api.DogMeet) bool { return before == m }
		if slices.ContainsFunc(b.Meets[:i], again) {
			continue
		}
		x := bond{m.Dog, m.Person}
		c.met[x] = append(c.met[x], m.Day)
	}
	for _, s := range b.Sniffs {
		c.sniffs[s.Trail] = append(c.sniffs[s.Trail], c.smelled(s))
	}
	return c
}

// since returns how many days before a day a dog last met somebody, if not on a later day.
func (b book) since(dog, person, day int) int {
	last := never
	for _, met := range b.met[bond{dog, person}] {
		if met <= day {
			last = min(last, day-met)
		}
	}
	return last
}

// with returns a book with one sniff more.
func (b book) with(s api.DogSniff) book {
	more := b.DogBook
	more.Sniffs = append(b.Sniffs[:len(b.Sniffs):len(b.Sniffs)], s)
	return prepared(more)
}

// without returns a book without some sniffs.
func (b book) without(out []int) book {
	rest := b.DogBook
	rest.Sniffs = nil
	for i, s := range b.Sniffs {
		if !slices.Contains(out, i) {
			rest.Sniffs = append(rest.Sniffs, s)
		}
	}
	return prepared(rest)
}

// wrong returns the fewest sniffs without which the book can be true, the first ones of several.
func (b book) wrong() []int {
	var best []int
	for i := range b.Sniffs {
		best = append(best, i)
	}
	// Lists come in their order, so one that is no shorter than the best one is no better.
	var leave func(out []int, from int)
	leave = func(out []int, from int) {
		if len(out) >= len(best) {
			return
		}
		if b.without(out).canBeTrue() {
			best = out
			return
		}
		for i := from; i < len(b.Sniffs); i++ {
			leave(append(out[:len(out):len(out)], i), i+1)
		}
	}
	leave(nil, 0)
	return best
}
