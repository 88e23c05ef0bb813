package search

import (
	"cmp"
	"iter"
	"slices"

	"clavendier/api"
)

// choice is the best one of the searches that were seen, of which there can be none.
type choice struct {
	better func(one, other []api.SearchRound) bool
	best   []api.SearchRound
	found  bool
}

// see sees one more search.
func (c *choice) see(rounds []api.SearchRound) {
	if !c.found || c.better(rounds, c.best) {
		c.best, c.found = rounds, true
	}
}

// shortest returns the rounds of the shortest search, if there is a search.
func (b book) shortest() ([]api.SearchRound, bool) {
	c := choice{better: b.isBetter}
	sides := b.sides()
	for rounds := range b.searches(sides) {
		c.see(rounds)
	}
	if b.Parties == 1 {
		slices.Reverse(sides)
		for rounds := range b.searches(sides) {
			c.see(rounds)
		}
	}
	return c.best, c.found
}

// sides lists the sides on which a stretch must be searched, the one below the house first: of each the posts behind all such stretches.
func (b book) sides() [][]int {
	wanted := b.wanted()
	var list [][]int
side:
	for _, post := range [...]int{0, len(b.Stretches)} {
		var posts []int
		// No stretch lies behind the farthest post.
		for stretch := -1; !slices.Contains(wanted, stretch); {
			if post == b.House {
				continue side
			}
			posts = append(posts, post)
			stretch, post = toward(post, b.House)
		}
		list = append(list, posts)
	}
	return list
}

// searches yields all searches that go to the sides in this order, and whose rounds begin as soon as they can: those that begin later are no better.
func (b book) searches(sides [][]int) iter.Seq[[]api.SearchRound] {
	return func(yield func([]api.SearchRound) bool) {
		var search func(rounds []api.SearchRound, left [][]int) bool
		search = func(rounds []api.SearchRound, left [][]int) bool {
			if len(left) == 0 {
				return yield(rounds)
			}
			for _, post := range left[0] {
				r, can := b.first(post, b.free(rounds))
				if can && !search(append(rounds[:len(rounds):len(rounds)], r), left[1:]) {
					return false
				}
			}
			return true
		}
		search(nil, sides)
	}
}

// free returns the first minute in which a party is free for a further round.
func (b book) free(rounds []api.SearchRound) int {
	if b.Parties > len(rounds) {
		return b.Now
	}
	return b.allBack(rounds)
}

// allBack returns the minute in which all rounds surely are back.
func (b book) allBack(rounds []api.SearchRound) int {
	back := b.Now
	for _, r := range rounds {
		back = max(back, b.back(r))
	}
	return back
}

// minutes returns how many minutes rounds take together, at most.
func (b book) minutes(rounds []api.SearchRound) int {
	var list []int
	for _, r := range rounds {
		list = append(list, b.takes(r.Post).High)
	}
	return sum(list...)
}

// isBetter reports whether one search is better than another one.
func (b book) isBetter(one, other []api.SearchRound) bool {
	return cmp.Or(
		cmp.Compare(b.allBack(one), b.allBack(other)),
		cmp.Compare(b.minutes(one), b.minutes(other)),
		slices.CompareFunc(one, other, compared),
	) < 0
}

// compared returns a negative number if one round comes before another one, 0 if they are the same.
func compared(one, other api.SearchRound) int {
	if one == other {
		return 0
	}
	return cmp.Or(cmp.Compare(one.Post, other.Post), cmp.Compare(one.Begin, other.Begin))
}
