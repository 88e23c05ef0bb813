package trail

import (
	"cmp"

	"clavendier/api"
)

// greatest returns the greatest of several numbers.
func greatest[T cmp.Ordered](one T, more ...T) T {
	for _, n := range more {
		one = max(one, n)
	}
	return one
}

// none returns a span without numbers.
func none() api.Span { return api.Span{Low: 0, High: -1} }

// isNone reports whether a span is without numbers.
func isNone(s api.Span) bool { return s.High < s.Low }

// both returns what lies in each of two spans; it can be none.
func both(one, other api.Span) api.Span {
	return api.Span{Low: greatest(one.Low, other.Low), High: min(one.High, other.High)}
}

// around returns the least span in which two others lie, of which the first one can be none.
func around(one, other api.Span) api.Span {
	if isNone(one) {
		return other
	}
	return api.Span{Low: min(one.Low, other.Low), High: greatest(one.High, other.High)}
}
