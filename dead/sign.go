package dead

import (
	"clavendier/api"
	"clavendier/name"
)

// What is written for a find that has no buttons, or no letter.
const (
	noButtons = -1
	noLetter  = ""
)

// found is a find, and the ear that hears the letter.
type found struct {
	api.DeadFind
	ear api.NameEar
}

// sign is what is left on a find, and tells whether it can be of a person.
type sign struct {
	allows func(f found, p api.DeadPerson) bool
}

// signs returns all signs; letters come last, as hearing takes longest.
func signs() [4]sign {
	return [...]sign{{found.hasButtons}, {found.hasCoins}, {found.wentUp}, {found.hasLetter}}
}

// hasButtons reports whether the buttons can be of a person.
func (f found) hasButtons(p api.DeadPerson) bool {
	return f.Buttons == noButtons || p.Buttons>>f.Buttons&1 == 1
}

// hasCoins reports whether all coins can be of a person.
func (f found) hasCoins(p api.DeadPerson) bool { return f.Coins&^p.Coins == 0 }

// wentUp reports whether a person went up before the find surely had died.
func (f found) wentUp(p api.DeadPerson) bool { return p.Day <= f.Day.High }

// hasLetter reports whether the letter can be of a person.
func (f found) hasLetter(p api.DeadPerson) bool {
	if f.Letter == noLetter {
		return true
	}
	_, e := name.Near(f.ear, f.Letter, p.Name)
	return e == api.OK
}

// can reports whether the find can be a person.
func (f found) can(p api.DeadPerson) bool {
	for _, s := range signs() {
		if !s.allows(f, p) {
			return false
		}
	}
	return true
}
