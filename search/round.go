package search

import (
	"iter"
	"slices"

	"clavendier/api"
)

// leg is a stretch that a round walks, out or back, and the minutes in which it can be on it.
type leg struct {
	api.SearchStretch
	on api.Span
}

// way returns the stretches between the house and a post.
func (b book) way(post int) []api.SearchStretch {
	from, to := min(post, b.House), max(post, b.House)
	return b.Stretches[from:to:to]
}

// takes returns between what lies how many minutes a round to a post takes.
func (b book) takes(post int) api.Span {
	var low, high []int
	for _, s := range b.way(post) {
		low, high = append(low, s.March.Low), append(high, s.March.High)
	}
	return api.Span{Low: 2 * sum(low...), High: 2 * sum(high...)}
}

// back returns the minute in which a round surely is back.
func (b book) back(r api.SearchRound) int { return r.Begin + b.takes(r.Post).High }

// toward returns the stretch on the way from a post to another one, and the next post.
func toward(post, goal int) (stretch, next int) {
	if post < goal {
		return post, post + 1
	}
	return post - 1, post - 1
}

// legs yields all that a round walks, out and back.
func (b book) legs(r api.SearchRound) iter.Seq[leg] {
	return func(yield func(leg) bool) {
		at := api.Span{Low: r.Begin, High: r.Begin}
		cross := func(stretch int) bool {
			s := b.Stretches[stretch]
			on := api.Span{Low: at.Low, High: at.High + s.March.High}
			at = api.Span{Low: at.Low + s.March.Low, High: on.High}
			return yield(leg{s, on})
		}
		var walk func(post int) bool
		walk = func(post int) bool {
			if post == r.Post {
				return true
			}
			stretch, next := toward(post, r.Post)
			return cross(stretch) && walk(next) && cross(stretch)
		}
		walk(b.House)
	}
}

// isShut reports whether a slope on the way to a post is safe in no hour.
func (b book) isShut(post int) bool {
	var never hours
	return slices.ContainsFunc(b.way(post), func(s api.SearchStretch) bool {
		return s.Slope != noSlope && b.safe[s.Slope] == never
	})
}

// rounds yields the rounds to a post that begin in a minute or later: none over a slope that is safe in no hour.
func (b book) rounds(post, from int) iter.Seq[api.SearchRound] {
	return func(yield func(api.SearchRound) bool) {
		if b.isShut(post) {
			return
		}
		for later := range b.Dark - from + 1 {
			if !yield(api.SearchRound{Post: post, Begin: from + later}) {
				return
			}
		}
	}
}

// first returns the first round to a post that can begin in a minute or later, if there is one.
func (b book) first(post, from int) (api.SearchRound, bool) {
	return firstOf(b.rounds(post, from), b.canBe)
}

// last returns the last round to a post that can be, if there is one.
func (b book) last(post int) (api.SearchRound, bool) {
	return lastOf(b.rounds(post, b.Now), b.canBe)
}
