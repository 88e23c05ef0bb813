package slope

import "clavendier/api"

// loads is which loads there can be. No load is as great as api.SlopeLoad.
type loads [api.SlopeLoad]bool

// those returns the loads of which something is so.
func (l loads) those(is func(load int) bool) loads {
	for load := range len(l) {
		l[load] = l[load] && is(load)
	}
	return l
}

// end is an end of all loads: which load is looked at there behind how many others.
type end struct{ at func(passed int) int }

// upward is what is looked at from the least load on.
func upward(passed int) int { return passed }

// downward is what is looked at from the greatest load on.
func downward(passed int) int { return len(loads{}) - 1 - passed }

// first returns the first load from an end on; there must be one.
func (l loads) first(e end) int {
	for passed := range len(l) {
		if load := e.at(passed); l[load] {
			return load
		}
	}
	return 0
}

// span returns the least and the greatest load; there must be one.
func (l loads) span() api.Span {
	return api.Span{Low: l.first(end{upward}), High: l.first(end{downward})}
}
