package search

import (
	"clavendier/api"
	"clavendier/slope"
	"clavendier/trail"
)

// noSlope is the Slope of a stretch that crosses none.
const noSlope = -1

// within reports whether a number is from low to high.
func within(n, low, high int) bool { return low <= n && n <= high }

// isMinute reports whether a number is a minute of the day.
func isMinute(n int) bool { return within(n, 0, api.TrailMinute) }

// isPost reports whether a number is that of a post.
func isPost(b api.SearchBook, post int) bool { return within(post, 0, len(b.Stretches)) }

// isGoal reports whether a round can be asked about that goes to a post.
func isGoal(b api.SearchBook, post int) bool { return isPost(b, post) && post != b.House }

// areStretches reports whether all stretches of a book are valid.
func areStretches(b api.SearchBook) bool {
	for _, s := range b.Stretches {
		if s.March.Low < 1 || s.March.Low > s.March.High || s.March.High > api.SearchMarch {
			return false
		}
		if !within(s.Slope, noSlope, len(b.Slopes)-1) {
			return false
		}
	}
	return true
}

// areSlopes reports whether all slopes of a book are valid, and can be true.
func areSlopes(b api.SearchBook) bool {
	for _, s := range b.Slopes {
		right, e := slope.Right(s)
		if e != api.OK || !right {
			return false
		}
	}
	return true
}

// areTravellers reports whether all travellers of a book, of which Now is valid, are valid, and have a truth.
func areTravellers(b api.SearchBook) bool {
	for _, t := range b.Travellers {
		if len(t.Trail.Stretches) != len(b.Stretches) {
			return false
		}
		if _, _, e := trail.Where(t.Trail, b.Now); e != api.OK {
			return false
		}
	}
	return true
}
