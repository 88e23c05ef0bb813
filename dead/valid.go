package dead

import (
	"clavendier/api"
	"clavendier/name"
)

// within reports whether a number is from low to high.
func within(n, low, high int) bool { return low <= n && n <= high }

// isName reports whether a text is a name.
func isName(text string) bool {
	// Any ear hears a name as itself, and refuses what is no name.
	_, e := name.Near(api.NameEar{}, text, text)
	return e == api.OK
}

// isSet reports whether a number is a set of so many things.
func isSet(n, things int) bool { return within(n, 0, 1<<things-1) }

// isSpan reports whether s is a span of days.
func isSpan(s api.Span) bool { return 0 <= s.Low && s.Low <= s.High && s.High <= api.MaxDay }

// isWrongFind reports whether a find is not valid.
func isWrongFind(f api.DeadFind) bool {
	signs := within(f.Buttons, noButtons, api.DeadKinds-1) && isSet(f.Coins, api.DeadMints)
	letter := f.Letter == noLetter || isName(f.Letter)
	return !signs || !letter || !isSpan(f.Day)
}

// isWrongPerson reports whether a person is not valid.
func isWrongPerson(p api.DeadPerson) bool {
	had := isSet(p.Buttons, api.DeadKinds) && isSet(p.Coins, api.DeadMints)
	return !had || !isName(p.Name) || !within(p.Day, 0, api.MaxDay)
}

// isFind reports whether a number is that of a find.
func isFind(b api.DeadBook, find int) bool { return within(find, 0, len(b.Finds)-1) }
