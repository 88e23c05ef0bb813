package trail

import "clavendier/api"

const (
	// latest is a minute behind which no post is reached or left: whoever waited for the last minute in which a stretch can be shut, and then takes as long as can be, is no later.
	latest = api.TrailLate + 1 + api.TrailStretches*(api.TrailRest+api.TrailPace)
	// forever is behind all minutes.
	forever = latest + 1
)

// minutes is in which minutes something can be.
type minutes [latest + 1]bool

// ever returns the span of all minutes.
func ever() api.Span { return api.Span{Low: 0, High: latest} }

// end is an end of a span: which minute is looked at from there on, behind how many others.
type end struct {
	at func(s api.Span, passed int) int
}

// upward is what is looked at from the first minute on.
func upward(s api.Span, passed int) int { return s.Low + passed }

// downward is what is looked at from the last minute on.
func downward(s api.Span, passed int) int { return s.High - passed }

// first returns the first minute that can be, of a span and from an end of it on; false if there is none.
func (m *minutes) first(s api.Span, e end) (int, bool) {
	s = both(s, ever())
	for passed := range s.High - s.Low + 1 {
		if minute := e.at(s, passed); m[minute] {
			return minute, true
		}
	}
	return 0, false
}

// among returns the first and the last minute that can be, of a span; false if there is none.
func (m *minutes) among(s api.Span) (api.Span, bool) {
	low, can := m.first(s, end{upward})
	high, _ := m.first(s, end{downward})
	return api.Span{Low: low, High: high}, can
}

// behind returns the minutes that lie so many behind one that can be.
func (m *minutes) behind(many api.Span) minutes {
	var later minutes
	near := -forever
	for minute := range len(m) - many.Low {
		if m[minute] {
			near = minute
		}
		later[minute+many.Low] = minute-near <= many.High-many.Low
	}
	return later
}
