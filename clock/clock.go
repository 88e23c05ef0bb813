// Package clock is layer 1: see shared/doc/01-clock.md.
package clock

import "clavendier/api"

// Check checks a clock.
func Check(c api.ClockClock) api.Errno {
	if !within(c.Set, 0, api.ClockMinute) || len(c.Frosts) > api.ClockFrosts {
		return api.ErrClock
	}
	over := 0
	for _, f := range c.Frosts {
		if !isNarrow(f.Begin) || !isNarrow(f.End) || f.Begin.Low < over || f.End.Low < f.Begin.High {
			return api.ErrClock
		}
		over = f.End.High
	}
	return api.OK
}

// Shows returns between what lies what a clock shows.
func Shows(c api.ClockClock, minute int) (api.Span, api.Errno) {
	if e := refuse(c, within(minute, 0, api.ClockMinute)); e != api.OK {
		return api.Span{}, e
	}
	shown, _ := told(c, minute, showing, minute, api.Span{Low: 0, High: latest})
	return shown, api.OK
}

// Means returns the first and the last minute in which a clock can show a reading.
func Means(c api.ClockClock, reading int) (api.Span, api.Errno) {
	if e := refuse(c, within(reading, 0, latest)); e != api.OK {
		return api.Span{}, e
	}
	meant, can := told(c, behind, meaning, reading, minutes())
	if !can {
		return api.Span{}, api.ErrNone
	}
	return meant, api.OK
}

// Passed returns how many minutes lie between two readings.
func Passed(c api.ClockClock, from, to int) (api.Span, api.Errno) {
	if e := refuse(c, within(from, 0, latest) && within(to, 0, latest)); e != api.OK {
		return api.Span{}, e
	}
	var all reach
	for d := range dials(c, behind) {
		all.add(d.passed(from, to))
	}
	if !all.any {
		return api.Span{}, api.ErrNone
	}
	return all.Span, api.OK
}

// Before returns whether a reading of a clock was before one of another clock.
func Before(c api.ClockClock, reading int, d api.ClockClock, other int) (int, api.Errno) {
	valid := within(reading, 0, latest) && within(other, 0, latest)
	for _, e := range []api.Errno{Check(c), refuse(d, valid)} {
		if e != api.OK {
			return 0, e
		}
	}
	one, e := Means(c, reading)
	if e != api.OK {
		return 0, e
	}
	two, e := Means(d, other)
	if e != api.OK {
		return 0, e
	}
	switch {
	case one.High < two.Low:
		return api.ClockYes, api.OK
	case one.Low >= two.High:
		return api.ClockNo, api.OK
	}
	return api.ClockMay, api.OK
}

// Right reports whether a book can be right.
func Right(c api.ClockClock, book []api.ClockLine) (bool, api.Errno) {
	if e := refuse(c, isBook(book)); e != api.OK {
		return false, e
	}
	return notebook{c, book}.rightWithout(nil), api.OK
}

// Times returns the first and the last minute of each line.
func Times(c api.ClockClock, book []api.ClockLine) ([]api.Span, api.Errno) {
	if e := refuseFalse(c, book); e != api.OK {
		return nil, e
	}
	return notebook{c, book}.times(), api.OK
}

// Stopped returns in how many minutes the clock stands still.
func Stopped(c api.ClockClock, book []api.ClockLine) (api.Span, api.Errno) {
	if e := refuseFalse(c, book); e != api.OK {
		return api.Span{}, e
	}
	return notebook{c, book}.stopped(), api.OK
}

// Wrong returns the fewest lines that must be wrong.
func Wrong(c api.ClockClock, book []api.ClockLine) ([]int, api.Errno) {
	if e := refuse(c, isBook(book)); e != api.OK {
		return nil, e
	}
	return fewest(len(book), notebook{c, book}.rightWithout), api.OK
}
