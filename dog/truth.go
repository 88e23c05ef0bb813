package dog

import (
	"iter"

	"clavendier/api"
)

// keeps is for how many days each dog knows a smell; 0 behind the last dog.
type keeps [api.DogDogs]int

// none is what no dogs know.
var none = keeps{-1, -1, -1}

// owners is whose each trail can be.
type owners [api.DogTrails]set

// keeping yields all days for which the dogs can know a smell, whatever they barked at.
func (b book) keeping() iter.Seq[keeps] {
	return func(yield func(keeps) bool) {
		var try func(dog int, days keeps) bool
		try = func(dog int, days keeps) bool {
			if dog == len(b.Keeps) {
				return yield(days)
			}
			known := b.Keeps[dog]
			for more := range known.High - known.Low + 1 {
				days[dog] = known.Low + more
				if !try(dog+1, days) {
					return false
				}
			}
			return true
		}
		try(0, keeps{})
	}
}

// whose returns whose a trail can be, if the dogs know a smell for so many days.
func (b book) whose(trail int, days keeps) set {
	can := nobody
	for person := range b.Persons + 1 {
		if all(b.sniffs[trail], guess{days, person}.isRight) {
			can |= just(person)
		}
	}
	return can
}

// truths yields all truths, those of the same days together: the days, and whose each trail can be then, whoever's the other ones are.
func (b book) truths() iter.Seq2[keeps, owners] {
	return func(yield func(keeps, owners) bool) {
	keeping:
		for days := range b.keeping() {
			var whose owners
			for trail := range b.Trails {
				whose[trail] = b.whose(trail, days)
				if whose[trail] == nobody {
					continue keeping
				}
			}
			if !yield(days, whose) {
				return
			}
		}
	}
}

// canBeTrue reports whether there is a truth in which all sniffs are right.
func (b book) canBeTrue() bool {
	for range b.truths() {
		return true
	}
	return false
}
