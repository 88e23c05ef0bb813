package house

import (
	"clavendier/api"
	"clavendier/name"
)

// within reports whether a number is from low to high.
func within(n, low, high int) bool { return low <= n && n <= high }

// isWrongSpan reports whether s is no span of bowls.
func isWrongSpan(s api.Span) bool { return s.Low < 0 || s.Low > s.High || s.High > api.HouseBowls }

// isName reports whether a text is a name.
func isName(text string) bool {
	// Any ear hears a name as itself, and refuses what is no name.
	_, e := name.Near(api.NameEar{}, text, text)
	return e == api.OK
}

// isLine reports whether a line of a house, of which Bowls and Towns are valid, is valid.
func isLine(b api.HouseBook, l api.HouseLine) bool {
	return within(l.Brother, 0, 1) && within(l.Night, 0, len(b.Bowls)-1) && within(l.Town, 0, b.Towns-1) && isName(l.Heard)
}

// isLineOf reports whether a number is that of a line.
func isLineOf(b api.HouseBook, line int) bool { return within(line, 0, len(b.Lines)-1) }

// refuse returns the error of a house, or else that of a question that is not valid.
func refuse(b api.HouseBook, valid bool) api.Errno {
	if e := Check(b); e != api.OK {
		return e
	}
	if !valid {
		return api.ErrHouseAsk
	}
	return api.OK
}
