package store

import (
	"slices"

	"clavendier/api"
)

// slot is a good and a week.
type slot struct{ good, week int }

// nowhere is told where no good runs out.
var nowhere = slot{-1, -1}

// store is a store in the calculation, with the weeks in which guests get half.
type store struct {
	api.StoreBook
	halves [api.StoreWeeks]bool
}

// alone returns a store of one good, with the mules that have it.
func (s store) alone(good int) store {
	var mules []api.StoreMule
	for _, m := range s.Mules {
		if m.Good == good {
			m.Good = 0
			mules = append(mules, m)
		}
	}
	s.Goods, s.Mules = s.Goods[good:good+1:good+1], mules
	return s
}

// holding returns a store with just so much of a good at first.
func (s store) holding(good, n int) store {
	s.Goods = slices.Clone(s.Goods)
	s.Goods[good].Have = api.Span{Low: n, High: n}
	return s
}

// crowded returns a store to which so many guests more can come in a week.
func (s store) crowded(week, more int) store {
	s.Weeks = slices.Clone(s.Weeks)
	s.Weeks[week].High += more
	return s
}

// delayed returns a store to which a mule can come by so many weeks later.
func (s store) delayed(mule, more int) store {
	s.Mules = slices.Clone(s.Mules)
	s.Mules[mule].Week.High += more
	return s
}

// halved returns a store in which guests get half in some weeks.
func (s store) halved(weeks []int) store {
	for _, week := range weeks {
		s.halves[week] = true
	}
	return s
}
