package store

import "clavendier/api"

// end is an end of what can be left of a good: which end of the spans of what is there leads to it, and which one of what is taken, and how it is told. Each of them leads to it whatever the other ones are, as whoever has more at some time has no less at any time behind it.
type end struct {
	there, taken func(s api.Span) int
	tell         func(known api.Span, left int) api.Span
}

// ends returns both ends.
func ends() [2]end { return [...]end{fewest(), plenty()} }

// fewest returns the end at which the least is left.
func fewest() end { return end{low, high, lower} }

// plenty returns the end at which the most is left.
func plenty() end { return end{high, low, higher} }

// low returns the least number of a span.
func low(s api.Span) int { return s.Low }

// high returns the greatest number of a span.
func high(s api.Span) int { return s.High }

// lower returns a span that begins no later than a number.
func lower(s api.Span, n int) api.Span { return api.Span{Low: min(s.Low, n), High: s.High} }

// higher returns a span that ends no sooner than a number.
func higher(s api.Span, n int) api.Span { return api.Span{Low: s.Low, High: greatest(s.High, n)} }
