package dog

import (
	"cmp"
	"math/bits"

	"clavendier/api"
)

// greatest returns the greatest of several numbers.
func greatest[T cmp.Ordered](one T, more ...T) T {
	for _, n := range more {
		one = max(one, n)
	}
	return one
}

// set is a set of persons and the stranger: it has the member k just if its bit k is 1.
type set uint

// nobody is the set without members.
const nobody set = 0

// just returns the set of one alone.
func just(person int) set { return 1 << person }

// has reports whether a set has a member.
func (s set) has(person int) bool { return s&just(person) != nobody }

// size returns how many members a set has.
func (s set) size() int { return bits.OnesCount(uint(s)) }

// members returns the members of a set, increasing.
func (s set) members() []int {
	var list []int
	for person := range api.DogPersons + 1 {
		if s.has(person) {
			list = append(list, person)
		}
	}
	return list
}
