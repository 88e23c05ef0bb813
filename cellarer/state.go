package cellarer

import (
	"clavendier/api"
	"clavendier/slope"
	"clavendier/town"
)

// setup is what a clerk has from the setup. Its fields are those of api.CellarerSetup, but not exported: a clerk promotes them, and nobody else is to change them.
type setup struct {
	ear          api.NameEar
	towns        []string
	nights, rate int
	store        api.StoreBook
	slope        api.SlopeBook
}

// state is all that a clerk keeps. No list of it is ever changed: another one takes its place.
type state struct {
	setup
	night   int
	lines   []api.HouseLine
	bowls   [api.HouseNights]api.Span
	paid    [api.HouseTowns]int
	says    [api.HouseTowns]api.Span
	journal []string
}

// copiedSetup returns a copy of a setup.
func copiedSetup(s api.CellarerSetup) setup {
	x := setup{ear: s.Ear, towns: copied(s.Towns), nights: s.Nights, rate: s.Rate, store: s.Store, slope: s.Slope}
	x.ear.Alike = copied(s.Ear.Alike)
	x.store.Goods, x.store.Weeks, x.store.Mules = copied(s.Store.Goods), copied(s.Store.Weeks), copied(s.Store.Mules)
	x.slope.Hours, x.slope.Sights = copied(s.Slope.Hours), copied(s.Slope.Sights)
	return x
}

// begun returns what a new clerk keeps.
func begun(s api.CellarerSetup) state {
	x := state{setup: copiedSetup(s)}
	for night := range x.bowls {
		x.bowls[night].High = api.HouseBowls
	}
	for t := range x.says {
		x.says[t].High = api.TownSays
	}
	return x
}

// isMade reports whether New or Open made the clerk.
func (s state) isMade() bool { return len(s.towns) > 0 }

// house returns the lists of both brothers.
func (s state) house() api.HouseBook {
	return api.HouseBook{
		Ear:   s.ear,
		Lines: s.lines[:len(s.lines):len(s.lines)],
		Bowls: s.bowls[:s.nights:s.nights],
		Towns: len(s.towns),
	}
}

// book returns the book of the towns.
func (s state) book() api.TownBook {
	return api.TownBook{House: s.house(), Rate: s.rate, Paid: s.batzen(), Says: s.says[:len(s.towns):len(s.towns)]}
}

// batzen returns what each town has paid.
func (s state) batzen() []int {
	list := make([]int, len(s.towns))
	if s.paid == [api.HouseTowns]int{} {
		// Nobody has paid.
		return list
	}
	copy(list, s.paid[:])
	return list
}

// after returns the state behind a line.
func (s state) after(l line) state {
	if l.asks() {
		return s
	}
	refuse(len(s.journal) == api.CellarerJournal, api.ErrFull)
	s = l.change(s, l)
	s.journal = lengthened(s.journal, l.text)
	return s
}

// right returns the state, unless the book of the towns cannot be right.
func (s state) right() state {
	is, e := town.Right(s.book())
	heed(e)
	refuse(!is, api.ErrCellarerFalse)
	return s
}

// seen returns the state, unless the slope cannot be true.
func (s state) seen() state {
	is, e := slope.Right(s.slope)
	heed(e)
	refuse(!is, api.ErrCellarerFalse)
	return s
}
