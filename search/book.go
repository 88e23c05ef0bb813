package search

import (
	"slices"

	"clavendier/api"
	"clavendier/slope"
	"clavendier/trail"
)

// hours tells of each hour whether it is one of a slope's book, and safe there.
type hours [api.SlopeHours]bool

// book is a book in the calculation, with the hours in which each slope is safe, and what was told of rounds before.
type book struct {
	api.SearchBook
	safe [api.SearchSlopes]hours
	told map[api.SearchRound]int
}

// prepared returns a valid book that can be calculated with.
func prepared(b api.SearchBook) book {
	x := book{SearchBook: b, told: map[api.SearchRound]int{}}
	for i, s := range b.Slopes {
		free, _ := slope.Free(s)
		for _, hour := range free {
			x.safe[i][hour] = true
		}
	}
	return x
}

// wanted returns all stretches that must be searched, increasing.
func (b book) wanted() []int {
	var must [api.SearchStretches]bool
	for _, t := range b.Travellers {
		on, _, _ := trail.Where(t.Trail, b.Now)
		for _, n := range on {
			out, _ := trail.Out(t.Trail, n, b.Now)
			if out.Low <= b.Live {
				must[b.stretchOf(t, n)] = true
			}
		}
	}
	var list []int
	for n := range b.Stretches {
		if must[n] {
			list = append(list, n)
		}
	}
	return list
}

// stretchOf returns which stretch of the book one of a traveller is.
func (b book) stretchOf(t api.SearchTraveller, n int) int {
	if t.Down {
		return len(b.Stretches) - 1 - n
	}
	return n
}

// reach returns the first and the last post to which a round can be, or the house.
func (b book) reach() api.Span {
	reached := api.Span{Low: b.House, High: b.House}
	for post := range len(b.Stretches) + 1 {
		if post == b.House {
			continue
		}
		if _, can := b.first(post, b.Now); can {
			reached.Low, reached.High = min(reached.Low, post), max(reached.High, post)
		}
	}
	return reached
}

// missed returns all stretches that must be searched, and are not between the posts of reach, increasing.
func (b book) missed() []int {
	reached := b.reach()
	return slices.DeleteFunc(b.wanted(), func(n int) bool { return within(n, reached.Low, reached.High-1) })
}
