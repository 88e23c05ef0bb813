package house

import (
	"clavendier/api"
	"clavendier/name"
)

// house is the lists of both brothers, and of each line which ones can be of one guest with it.
type house struct {
	api.HouseBook
	could [api.HouseLines]lines
}

// compared returns a valid house whose lines have been compared.
func compared(b api.HouseBook) house {
	h := house{HouseBook: b}
	for one, l := range b.Lines {
		for other, m := range b.Lines {
			if l.Brother != m.Brother && l.Night == m.Night && l.Town == m.Town {
				_, e := name.Near(b.Ear, l.Heard, m.Heard)
				h.could[one][other] = e == api.OK
			}
		}
	}
	return h
}

// can reports whether two lines can be of one guest.
func (h house) can(one, other int) bool { return h.could[one][other] }

// areTrue reports whether pairs are a truth.
func (h house) areTrue(pairs []api.NamePair) bool {
	var nights [api.HouseNights]truth
	before := -1
	for _, p := range pairs {
		if !within(p.One, before+1, len(h.Lines)-1) {
			return false
		}
		before = p.One
		number := h.Lines[p.One].Night
		nights[number] = append(nights[number], p)
	}
	for number := range len(h.Bowls) {
		if !h.night(number).isTruth(nights[number]) {
			return false
		}
	}
	return true
}
