package search

import "clavendier/api"

// reason is why a round cannot be: how it is told, and whether it holds for a round.
type reason struct {
	tell  int
	holds func(b book, r api.SearchRound) bool
}

// reasons returns all reasons; of several ones that hold the first one is told.
func reasons() [3]reason {
	return [...]reason{
		{api.SearchSlope, book.isUnsafe},
		{api.SearchDark, book.isLate},
		{api.SearchFine, book.isAny},
	}
}

// isUnsafe reports whether a round can be on a slope in an hour that is not safe.
func (b book) isUnsafe(r api.SearchRound) bool {
	for x := range b.legs(r) {
		if x.Slope != noSlope && !b.safe[x.Slope].all(b.hour(x.on.Low), b.hour(x.on.High)) {
			return true
		}
	}
	return false
}

// isLate reports whether a round may not be back by dark.
func (b book) isLate(r api.SearchRound) bool { return b.back(r) > b.Dark }

// isAny holds for every round: it is told where no other reason is.
func (b book) isAny(api.SearchRound) bool { return true }

// hour returns the hour of a minute.
func (b book) hour(minute int) int { return (minute - b.Now) / 60 }

// all reports whether a slope is safe in all hours from one to another one.
func (safe hours) all(from, to int) bool {
	if to >= len(safe) {
		return false
	}
	for _, is := range safe[from : to+1 : to+1] {
		if !is {
			return false
		}
	}
	return true
}

// why returns why a round cannot be.
func (b book) why(r api.SearchRound) int {
	if told, is := b.told[r]; is {
		return told
	}
	for _, x := range reasons() {
		if x.holds(b, r) {
			b.told[r] = x.tell
			break
		}
	}
	return b.told[r]
}

// canBe reports whether a round can be.
func (b book) canBe(r api.SearchRound) bool { return b.why(r) == api.SearchFine }
