package trail

import (
	"iter"

	"clavendier/api"
)

// moment is a post and a minute in which it is left.
type moment struct{ post, minute int }

// leg is what can be of one who leaves a post in a moment: when the traveller came to it, and before which minute the traveller can be on the stretch behind it.
type leg struct {
	came  api.Span
	until int
}

// over is the moment at the end of the trail: who comes to the last post is there from then on.
func (b trail) over() moment { return moment{b.last(), forever} }

// before returns the minutes in which the post of a moment can be reached, whatever is said; none if it cannot be left then.
func (b trail) before(m moment) api.Span {
	if m == b.over() {
		return ever()
	}
	return b.stretch(m.post).before(m.minute)
}

// exits returns the first and the last minute in which a post can be left that was reached between these.
func (b trail) exits(post int, came api.Span) api.Span {
	if post == b.last() {
		return api.Span{Low: forever, High: forever}
	}
	x := b.stretch(post)
	return api.Span{Low: x.leaves(came.Low + x.Rest.Low), High: x.leaves(came.High + x.Rest.High)}
}

// departures yields each minute in which a post can be left that was reached in one of some minutes, if the sights at it are right, and the first and the last of those in which it was reached then; each of them in between fits, too.
func (b trail) departures(post int, came *minutes) iter.Seq2[int, api.Span] {
	return func(yield func(int, api.Span) bool) {
		all, _ := came.among(ever())
		exits := b.exits(post, all)
	departing:
		for more := range exits.High - exits.Low + 1 {
			left := exits.Low + more
			fits := b.before(moment{post, left})
			for _, s := range b.sights[post] {
				fits = both(fits, s.came(left))
				if isNone(fits) {
					continue departing
				}
			}
			if those, can := came.among(fits); can && !yield(left, those) {
				return
			}
		}
	}
}

// arrivals returns in which minutes the next post can be reached, if this one was in one of some minutes.
func (b trail) arrivals(post int, came *minutes) minutes {
	var left minutes
	for minute := range b.departures(post, came) {
		left[minute] = true
	}
	return left.behind(b.Stretches[post].Walk)
}

// until returns before which minute one can be on the stretch who leaves a post in a moment, if a truth goes on from some minutes in which the next post is reached; false if none goes on.
func (b trail) until(m moment, next *minutes) (int, bool) {
	if b.mayStay[m.post] {
		return forever, true
	}
	walk := b.Stretches[m.post].Walk
	return next.first(api.Span{Low: m.minute + walk.Low, High: m.minute + walk.High}, end{downward})
}

// walks yields each moment in which a post is left in a truth, and what can be of it.
func (b trail) walks() iter.Seq2[moment, leg] {
	return func(yield func(moment, leg) bool) {
		more := true
		// goOn returns those of the minutes in which a post was reached from which a truth goes on.
		var goOn func(post int, came minutes) minutes
		goOn = func(post int, came minutes) minutes {
			if came == (minutes{}) {
				return came
			}
			var next, back minutes
			if post < b.last() {
				next = goOn(post+1, b.arrivals(post, &came))
			}
			if next == (minutes{}) && !b.mayStay[post] {
				return next
			}
			for left, those := range b.departures(post, &came) {
				m := moment{post, left}
				until, can := b.until(m, &next)
				if !can {
					continue
				}
				if more = more && yield(m, leg{those, until}); !more {
					return back
				}
				for minute := those.Low; minute <= those.High; minute++ {
					back[minute] = came[minute]
				}
			}
			return back
		}
		goOn(0, b.start())
	}
}
