package dog

import "clavendier/api"

// sniff is a sniff in the calculation: how many days before it the dog last met each person, and the stranger, and what the sniff must be.
type sniff struct {
	api.DogSniff
	since [api.DogPersons + 1]int
	must  func(since, keep int) bool
}

// barks is what a dog can do that is led to a trail.
var barks = [...]bool{true, false}

// knows reports whether a dog knows somebody whom it last met so many days before, if it knows a smell for so many.
func knows(since, keep int) bool { return since <= keep }

// knowsNot reports the contrary.
func knowsNot(since, keep int) bool { return !knows(since, keep) }

// smelled returns a sniff in the calculation.
func (b book) smelled(s api.DogSniff) sniff {
	x := sniff{DogSniff: s, must: knowsNot}
	if s.Barked {
		x.must = knows
	}
	for person := range b.Persons + 1 {
		x.since[person] = b.since(s.Dog, person, s.Day)
	}
	return x
}

// guess is for how many days all dogs know a smell, and whose a trail is.
type guess struct {
	days   keeps
	person int
}

// isRight reports whether a sniff at the trail is right.
func (g guess) isRight(s sniff) bool { return s.must(s.since[g.person], g.days[s.Dog]) }

// all reports whether something is so of all of a list.
func all[T any](list []T, is func(one T) bool) bool {
	for _, one := range list {
		if !is(one) {
			return false
		}
	}
	return true
}
