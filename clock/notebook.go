package clock

import (
	"iter"
	"slices"

	"clavendier/api"
)

// notebook is a clock, and the book that was written by it.
type notebook struct {
	clock api.ClockClock
	lines []api.ClockLine
}

// spans is in which minutes each line of a book can have been written.
type spans [api.ClockLines]api.Span

// until returns the last minute that a line of any course can have: no line is behind the last one. Frosts from there on do not matter.
func (n notebook) until() int {
	if len(n.lines) == 0 {
		return 0
	}
	return n.lines[len(n.lines)-1].Known.High
}

// courses yields each dial by which the book has a course, with the first and the last minute that each line has in one. Frosts matter before the minute until alone.
func (n notebook) courses(until int) iter.Seq2[dial, spans] {
	return func(yield func(dial, spans) bool) {
	next:
		for d := range dials(n.clock, until) {
			var s spans
			soonest := 0
			for i, l := range n.lines {
				s[i] = d.tell(meaning, l.Reading, api.Span{Low: greatest(l.Known.Low, soonest), High: l.Known.High})
				if isEmpty(s[i]) {
					continue next
				}
				soonest = s[i].Low
			}
			for i := len(n.lines) - 2; i >= 0; i-- {
				s[i].High = min(s[i].High, s[i+1].High)
			}
			if !yield(d, s) {
				return
			}
		}
	}
}

// rightWithout reports whether the book without some lines has a course.
func (n notebook) rightWithout(out []int) bool {
	rest := notebook{clock: n.clock}
	for i, l := range n.lines {
		if !slices.Contains(out, i) {
			rest.lines = append(rest.lines, l)
		}
	}
	for range rest.courses(rest.until()) {
		return true
	}
	return false
}

// times returns the first and the last minute of each line in all courses of a book that can be right.
func (n notebook) times() []api.Span {
	var all [api.ClockLines]reach
	for _, s := range n.courses(n.until()) {
		for i := range n.lines {
			all[i].add(s[i])
		}
	}
	list := make([]api.Span, len(n.lines))
	for i := range list {
		list[i] = all[i].Span
	}
	return list
}

// stopped returns in how many of all minutes the clock stands still in all truths with which the book has a course.
func (n notebook) stopped() api.Span {
	var all reach
	for d := range n.courses(behind) {
		all.add(d.tell(standing, behind, api.Span{Low: 0, High: behind}))
	}
	return all.Span
}

// fewest returns the first one of the shortest lists of numbers below count that will do; none if no list does.
func fewest(count int, will func(list []int) bool) []int {
	var found []int
	var add func(list []int, from, more int) bool
	add = func(list []int, from, more int) bool {
		if more == 0 {
			found = list
			return will(list)
		}
		for i := from; i < count; i++ {
			if add(append(list[:len(list):len(list)], i), i+1, more-1) {
				return true
			}
		}
		return false
	}
	for more := range count + 1 {
		if add(nil, 0, more) {
			return found
		}
	}
	return nil
}
