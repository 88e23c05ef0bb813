package store

import (
	"slices"
	"sort"

	"clavendier/api"
)

// lastsIn reports whether all goods last for all weeks if mules come in a way, with the least that there can be, and the most that can be taken: what is left by them is the least that can be left in this way.
func (s store) lastsIn(w way) bool {
	for _, left := range s.weeks(w, fewest()) {
		if slices.Contains(left[:len(s.Goods):len(s.Goods)], out) {
			return false
		}
	}
	return true
}

// lasts reports whether all goods surely last for all weeks.
func (s store) lasts() bool { return all(s.ways(), s.lastsIn) }

// half returns the fewest weeks in which guests must get half so that all goods surely last, the first ones of several; none if they do in no way.
func (s store) half() ([]int, api.Errno) {
	var best []int
	for week := range len(s.Weeks) {
		best = append(best, week)
	}
	// Who gets half in more weeks takes no more in any.
	if !s.halved(best).lasts() {
		return nil, api.ErrNone
	}
	// Lists come in their order, so one that is no shorter than the best one is no better.
	var try func(weeks []int, from int)
	try = func(weeks []int, from int) {
		if len(weeks) >= len(best) {
			return
		}
		if s.halved(weeks).lasts() {
			best = weeks
			return
		}
		for week := from; week < len(s.Weeks); week++ {
			try(append(weeks[:len(weeks):len(weeks)], week), week+1)
		}
	}
	try(nil, 0)
	return best, api.OK
}

// trial is a store that is changed by a number.
type trial struct{ changed func(n int) store }

// lasts reports whether all goods of the changed store surely last.
func (t trial) lasts(n int) bool { return t.changed(n).lasts() }

// most returns the greatest number up to high by which all goods surely last. They do so by all that are less, if by any.
func (t trial) most(high int) (int, api.Errno) {
	if !t.lasts(0) {
		return 0, api.ErrNone
	}
	not := func(n int) bool { return !t.lasts(n + 1) }
	return sort.Search(high, not), api.OK
}

// least returns the least number up to high by which all goods surely last. They do so by all that are greater, if by any.
func (t trial) least(high int) (int, api.Errno) {
	n := sort.Search(high+1, t.lasts)
	if n > high {
		return 0, api.ErrNone
	}
	return n, api.OK
}
