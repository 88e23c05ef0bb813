package house

import "clavendier/api"

// nobody stands for the other line of a line that is in no pair.
const nobody = -1

// match is a line, and the other line of its pair.
type match struct{ line, other int }

// lines is of which lines something is so.
type lines [api.HouseLines]bool

// truth is all pairs of a night in a truth.
type truth []api.NamePair

// match returns the match of a line.
func (t truth) match(line int) match {
	for _, p := range t {
		switch line {
		case p.One:
			return match{line, p.Other}
		case p.Other:
			return match{line, p.One}
		}
	}
	return match{line, nobody}
}

// paired returns which lines are paired.
func (t truth) paired() lines {
	var in lines
	for line := range in {
		in[line] = t.match(line) != match{line, nobody}
	}
	return in
}

// guests returns of how many guests lines are, of which none is in a pair with another line than these.
func (t truth) guests(list []int) int {
	paired := t.paired()
	if paired == (lines{}) {
		return len(list)
	}
	twice := 0
	for _, line := range list {
		if paired[line] {
			twice++
		}
	}
	return len(list) - twice/2
}
