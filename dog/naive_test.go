package dog_test

import (
	"math/rand"
	"slices"

	"clavendier/api"
)

// This file calculates what the document promises in the plainest way: it goes through all truths of a book, one by one.

// truth is for how many days each dog knows a smell, and whose each trail is.
type truth struct{ keeps, whose []int }

// knowsThen reports whether a dog that knows a smell for so many days knows somebody on a day.
func knowsThen(b api.DogBook, keep, dog, person, day int) bool {
	for _, m := range b.Meets {
		if m.Dog == dog && m.Person == person && m.Day <= day && day-m.Day <= keep {
			return true
		}
	}
	return false
}

// isRight reports whether a sniff is right in a truth.
func isRight(b api.DogBook, x truth, s api.DogSniff) bool {
	return s.Barked == knowsThen(b, x.keeps[s.Dog], s.Dog, x.whose[s.Trail], s.Day)
}

// choices lists all lists of which each number lies in its span.
func choices(spans []api.Span) [][]int {
	lists := [][]int{nil}
	for _, s := range spans {
		var longer [][]int
		for _, list := range lists {
			for n := s.Low; n <= s.High; n++ {
				longer = append(longer, append(slices.Clone(list), n))
			}
		}
		lists = longer
	}
	return lists
}

// allTruths lists all truths of a book, whatever dogs barked at.
func allTruths(b api.DogBook) []truth {
	var list []truth
	owners := choices(slices.Repeat([]api.Span{to(0, b.Persons)}, b.Trails))
	for _, keeps := range choices(b.Keeps) {
		for _, whose := range owners {
			list = append(list, truth{keeps, whose})
		}
	}
	return list
}

// truths lists those of some truths in which all of some sniffs are right.
func truths(b api.DogBook, some []truth, sniffs ...api.DogSniff) []truth {
	var list []truth
	for _, x := range some {
		wrong := func(s api.DogSniff) bool { return !isRight(b, x, s) }
		if !slices.ContainsFunc(sniffs, wrong) {
			list = append(list, x)
		}
	}
	return list
}

// distinct lists different numbers, increasing.
func distinct(numbers []int) []int {
	list := slices.Sorted(slices.Values(numbers))
	return slices.Compact(list)
}

// naiveWhose tells of some truths whose a trail is in one.
func naiveWhose(some []truth, trail int) []int {
	var list []int
	for _, x := range some {
		list = append(list, x.whose[trail])
	}
	return distinct(list)
}

// naiveOf tells of some truths which trails are somebody's in all of them, and in some.
func naiveOf(b api.DogBook, some []truth, person int) (surely, perhaps []int) {
	for trail := range b.Trails {
		is := 0
		for _, x := range some {
			if x.whose[trail] == person {
				is++
			}
		}
		if is == len(some) {
			surely = append(surely, trail)
		}
		if is > 0 {
			perhaps = append(perhaps, trail)
		}
	}
	return surely, perhaps
}

// naiveKeeps tells of some truths for how many days a dog knows a smell; there must be one.
func naiveKeeps(some []truth, dog int) api.Span {
	var list []int
	for _, x := range some {
		list = append(list, x.keeps[dog])
	}
	return to(slices.Min(list), slices.Max(list))
}

// naiveKnows tells of some truths whether a dog knows a person on a day: 2 in all of them, 1 in some, 0 in none.
func naiveKnows(b api.DogBook, some []truth, dog, person, day int) int {
	known := 0
	for _, x := range some {
		if knowsThen(b, x.keeps[dog], dog, person, day) {
			known++
		}
	}
	switch known {
	case 0:
		return 0
	case len(some):
		return 2
	}
	return 1
}

// naiveUntil tells of some truths the last day on which a dog knows a person in all of them, if there is one.
func naiveUntil(b api.DogBook, some []truth, dog, person int) (int, bool) {
	for day := 999 + 60; day >= 0; day-- {
		if naiveKnows(b, some, dog, person, day) == 2 {
			return day, true
		}
	}
	return 0, false
}

// naiveTake tells of some truths the first dog that knows a person on a day in all of them, if there is one.
func naiveTake(b api.DogBook, some []truth, person, day int) (int, bool) {
	for dog := range b.Keeps {
		if naiveKnows(b, some, dog, person, day) == 2 {
			return dog, true
		}
	}
	return 0, false
}

// naiveAsk returns the dog that leaves the fewest whose a trail can be at the worst, of some truths, if there is something to ask.
func naiveAsk(b api.DogBook, some []truth, trail, day int) (int, bool) {
	if len(naiveWhose(some, trail)) == 1 {
		return 0, false
	}
	var worst []int
	for dog := range b.Keeps {
		most := 0
		for _, s := range []api.DogSniff{bark(dog, trail, day), silent(dog, trail, day)} {
			most = max(most, len(naiveWhose(truths(b, some, s), trail)))
		}
		worst = append(worst, most)
	}
	return slices.Index(worst, slices.Min(worst)), true
}

// subsets lists all strictly increasing lists of numbers below n: shorter ones first, then the first one first.
func subsets(n int) [][]int {
	var lists [][]int
	for members := range 1 << n {
		var list []int
		for i := range n {
			if members>>i&1 == 1 {
				list = append(list, i)
			}
		}
		lists = append(lists, list)
	}
	slices.SortFunc(lists, func(a, b []int) int {
		if len(a) != len(b) {
			return len(a) - len(b)
		}
		return slices.Compare(a, b)
	})
	return lists
}

// naiveWrong returns the fewest sniffs that must be wrong, of all truths of a book.
func naiveWrong(b api.DogBook, every []truth) []int {
	var wrongs [][]int
	for _, x := range every {
		var wrong []int
		for i, s := range b.Sniffs {
			if !isRight(b, x, s) {
				wrong = append(wrong, i)
			}
		}
		wrongs = append(wrongs, wrong)
	}
	slices.SortFunc(wrongs, slices.Compare)
	wrongs = slices.CompactFunc(wrongs, slices.Equal)
	for _, out := range subsets(len(b.Sniffs)) {
		if slices.ContainsFunc(wrongs, func(wrong []int) bool { return isSubset(wrong, out) }) {
			return out
		}
	}
	return nil
}

// isSubset reports whether all numbers of a list are in another one.
func isSubset(list, all []int) bool {
	return !slices.ContainsFunc(list, func(n int) bool { return !slices.Contains(all, n) })
}

// size is how large a book is at most.
type size struct{ persons, trails, dogs, wide int }

// small and whole are the sizes of books with few truths, and of any book.
var small, whole = size{4, 2, 3, 3}, size{6, 4, 3, 8}

// denseBook is a book of two dogs and few days, of which each meeting and each sniff tells something about the other ones; its sniffs are right in a truth.
func denseBook(r *rand.Rand) api.DogBook {
	b := api.DogBook{Persons: 2 + r.Intn(2), Trails: 1 + r.Intn(2), Keeps: []api.Span{to(0, 8), to(0, 8)}}
	for hound := range b.Keeps {
		for person := range b.Persons {
			b.Meets = append(b.Meets, meet(hound, person, r.Intn(9)))
		}
	}
	x := lived(r, b)
	for range 4 + r.Intn(5) {
		hound, trail, day := r.Intn(len(b.Keeps)), r.Intn(b.Trails), 4+r.Intn(12)
		barked := knowsThen(b, x.keeps[hound], hound, x.whose[trail], day)
		b.Sniffs = append(b.Sniffs, api.DogSniff{Dog: hound, Trail: trail, Day: day, Barked: barked})
	}
	return b
}

// someKeep is for how many days a dog can know a smell.
func someKeep(r *rand.Rand, wide int) api.Span {
	low := r.Intn([]int{3, 12, 61}[r.Intn(3)])
	return to(low, min(60, low+r.Intn(wide+1)))
}

// someBook is a valid book of a size, without sniffs; most of it is in a few weeks.
func someBook(r *rand.Rand, most size) api.DogBook {
	b := api.DogBook{Persons: 1 + r.Intn(most.persons), Trails: r.Intn(most.trails + 1)}
	for range 1 + r.Intn(most.dogs) {
		b.Keeps = append(b.Keeps, someKeep(r, most.wide))
	}
	first := []int{0, 500, 970}[r.Intn(3)]
	for range r.Intn(13) {
		b.Meets = append(b.Meets, meet(r.Intn(len(b.Keeps)), r.Intn(b.Persons), first+r.Intn(30)))
	}
	return b
}

// lived is a truth of a book.
func lived(r *rand.Rand, b api.DogBook) truth {
	var x truth
	for _, s := range b.Keeps {
		x.keeps = append(x.keeps, s.Low+r.Intn(s.High-s.Low+1))
	}
	for range b.Trails {
		x.whose = append(x.whose, r.Intn(b.Persons+1))
	}
	return x
}

// someDay is a day on which it can matter for how many days a dog knows a smell.
func someDay(r *rand.Rand, b api.DogBook) int {
	if len(b.Meets) == 0 || r.Intn(5) == 0 {
		return r.Intn(1000)
	}
	m := b.Meets[r.Intn(len(b.Meets))]
	keep := b.Keeps[m.Dog]
	if r.Intn(2) == 0 {
		return min(999, m.Day+keep.Low+r.Intn(keep.High-keep.Low+2))
	}
	return max(0, min(999, m.Day+r.Intn(keep.High+3)-1))
}

// rightSniff is a sniff that is right in a truth; there must be a trail.
func rightSniff(r *rand.Rand, b api.DogBook, x truth) api.DogSniff {
	s := api.DogSniff{Dog: r.Intn(len(b.Keeps)), Trail: r.Intn(b.Trails), Day: someDay(r, b)}
	s.Barked = knowsThen(b, x.keeps[s.Dog], s.Dog, x.whose[s.Trail], s.Day)
	return s
}

// someSniffs are up to so many sniffs; one in so many can be wrong in the truth.
func someSniffs(r *rand.Rand, b api.DogBook, x truth, most, oneIn int) []api.DogSniff {
	var list []api.DogSniff
	if b.Trails == 0 {
		return nil
	}
	for range r.Intn(most + 1) {
		s := rightSniff(r, b, x)
		if r.Intn(oneIn) == 0 {
			s.Barked = !s.Barked
		}
		list = append(list, s)
	}
	return list
}
