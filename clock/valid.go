package clock

import "clavendier/api"

const (
	behind = api.ClockMinute + 1 // the first minute behind the three days
	latest = 2 * api.ClockMinute // what a clock can show at most: its Set, and one more for each minute before the last one
)

// minutes returns the span of all minutes.
func minutes() api.Span { return api.Span{Low: 0, High: api.ClockMinute} }

// within reports whether a number is from low to high.
func within(n, low, high int) bool { return low <= n && n <= high }

// isSpan reports whether s is a span of minutes.
func isSpan(s api.Span) bool { return 0 <= s.Low && s.Low <= s.High && s.High <= api.ClockMinute }

// isNarrow reports whether s is a span of minutes that can be known of a frost.
func isNarrow(s api.Span) bool { return isSpan(s) && s.High-s.Low <= api.ClockSpan }

// isBook reports whether a list is a book.
func isBook(lines []api.ClockLine) bool {
	for _, l := range lines {
		if !within(l.Reading, 0, latest) || !isSpan(l.Known) {
			return false
		}
	}
	return len(lines) <= api.ClockLines
}

// refuse returns the error of a clock, or else that of a question that is not valid.
func refuse(c api.ClockClock, valid bool) api.Errno {
	if e := Check(c); e != api.OK {
		return e
	}
	if !valid {
		return api.ErrClockAsk
	}
	return api.OK
}

// refuseFalse returns the errors that refuse returns, or else that of a book that cannot be right.
func refuseFalse(c api.ClockClock, book []api.ClockLine) api.Errno {
	right, e := Right(c, book)
	if e == api.OK && !right {
		return api.ErrClockFalse
	}
	return e
}
