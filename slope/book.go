package slope

import (
	"slices"

	"clavendier/api"
)

// book is a book in the calculation.
type book struct {
	api.SlopeBook
	hours []hour
}

// prepared returns a book whose hours can be calculated with.
func prepared(b api.SlopeBook) book {
	c := book{SlopeBook: b}
	for i, known := range b.Hours {
		h := hour{SlopeHour: known, slope: b.Slope}
		for _, s := range b.Sights {
			if s.Hour == i {
				h.sights = append(h.sights, s)
			}
		}
		for n := range h.brought() {
			if !slices.Contains(h.brings, n) {
				h.brings = append(h.brings, n)
			}
		}
		c.hours = append(c.hours, h)
	}
	return c
}

// start returns what can be left before the first hour.
func (b book) start() loads {
	var left loads
	for more := range b.Start.High - b.Start.Low + 1 {
		left[b.Start.Low+more] = true
	}
	return left
}

// courses returns what can be of each hour, if all sights in it and in the hours before it are right; false if nothing can be of one.
func (b book) courses() ([]course, bool) {
	var list []course
	left := b.start()
	for _, h := range b.hours {
		c := h.course(left)
		left = c.left()
		if left == (loads{}) {
			return nil, false
		}
		list = append(list, c)
	}
	return list, true
}

// canBeTrue reports whether there is a truth in which all sights are right.
func (b book) canBeTrue() bool {
	_, can := b.courses()
	return can
}

// without returns a book without some sights.
func (b book) without(out []int) book {
	rest := b.SlopeBook
	rest.Sights = nil
	for i, s := range b.Sights {
		if !slices.Contains(out, i) {
			rest.Sights = append(rest.Sights, s)
		}
	}
	return prepared(rest)
}

// wrong returns the fewest sights without which the book can be true, the first ones of several.
func (b book) wrong() []int {
	var best []int
	for i := range b.Sights {
		best = append(best, i)
	}
	// Lists come in their order, so one that is no shorter than the best one is no better.
	var leave func(out []int, from int)
	leave = func(out []int, from int) {
		if len(out) >= len(best) {
			return
		}
		if b.without(out).canBeTrue() {
			best = out
			return
		}
		for i := from; i < len(b.Sights); i++ {
			leave(append(out[:len(out):len(out)], i), i+1)
		}
	}
	leave(nil, 0)
	return best
}
