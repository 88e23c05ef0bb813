package town

import (
	"cmp"
	"math"
	"slices"

	"clavendier/api"
)

// account is a book, how many truths of its house have which nights, and which of these nights those of the book have.
type account struct {
	book
	counts map[each]int
	right  []each
}

// counted counts all truths.
func counted(b book) account {
	a := account{book: b, counts: map[each]int{}}
	for t := range b.truths() {
		a.counts[b.nights(t)]++
	}
	a.right = only(a.counts, b.isSaid)
	return a
}

// only returns those nights of which something is so.
func only(counts map[each]int, is func(n each) bool) []each {
	var list []each
	for n := range counts {
		if is(n) {
			list = append(list, n)
		}
	}
	return list
}

// isHouse reports whether the house has a truth.
func (a account) isHouse() bool { return len(a.counts) > 0 }

// isRight reports whether the book has a truth.
func (a account) isRight() bool { return len(a.right) > 0 }

// span returns the least and the greatest number that is told of the nights of a truth of the book; there must be one.
func (a account) span(tell func(n each) int) api.Span {
	s := api.Span{Low: math.MaxInt, High: math.MinInt}
	for _, n := range a.right {
		s.Low, s.High = min(s.Low, tell(n)), max(s.High, tell(n))
	}
	return s
}

// told returns between what lies what is told of a town.
func (a account) told(what, town int) api.Span {
	of := tellings()[what].of
	return a.span(func(n each) int { return of(a.book, n, town) })
}

// least returns what is told of each town at least.
func (a account) least(what int) each {
	var x each
	for town := range a.House.Towns {
		x[town] = a.told(what, town).Low
	}
	return x
}

// lost returns between what lies what the house loses.
func (a account) lost() api.Span {
	// No town is asked for more than is due of it in any truth, so that what is lost of all is the difference of the sums.
	asked := a.least(tellDue).sum()
	return a.span(func(n each) int {
		var all each
		for town := range a.House.Towns {
			all[town] = a.due(n, town)
		}
		return all.sum() - asked
	})
}

// agrees returns whether what a town says is so in each truth of the house (2), in some (1), or in none (0).
func (a account) agrees(town int) int {
	agreed := only(a.counts, func(n each) bool { return a.says(n, town) })
	switch len(agreed) {
	case 0:
		return 0
	case len(a.counts):
		return 2
	}
	return 1
}

// wrong returns the fewest towns that are wrong in a truth of the house; there must be one.
func (a account) wrong() []int {
	var lists [][]int
	for n := range a.counts {
		lists = append(lists, a.against(n))
	}
	return slices.MinFunc(lists, func(one, other []int) int {
		return cmp.Or(cmp.Compare(len(one), len(other)), slices.Compare(one, other))
	})
}

// left returns how many truths of the book are left at the worst once the nights of a town are known.
func (a account) left(town int) int {
	var left [api.HouseLines + 1]int
	for _, n := range a.right {
		left[n[town]] += a.counts[n]
	}
	return slices.Max(left[:])
}

// hear returns the first town of which the nights leave the fewest truths at the worst.
func (a account) hear() int {
	best := 0
	for town := range a.House.Towns {
		if a.left(town) < a.left(best) {
			best = town
		}
	}
	return best
}
