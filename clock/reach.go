package clock

import (
	"cmp"

	"clavendier/api"
)

// greatest returns the greatest of several numbers.
func greatest[T cmp.Ordered](one T, more ...T) T {
	for _, n := range more {
		if n > one {
			one = n
		}
	}
	return one
}

// isEmpty reports whether nothing lies in a span.
func isEmpty(s api.Span) bool { return s.Low > s.High }

// reach is the least span in which all spans lie that were added, if there were any.
type reach struct {
	api.Span
	any bool
}

// add widens a reach to a span, if that is not empty.
func (r *reach) add(s api.Span) {
	switch {
	case isEmpty(s):
	case r.any:
		r.Low, r.High = min(r.Low, s.Low), greatest(r.High, s.High)
	default:
		r.Span, r.any = s, true
	}
}
