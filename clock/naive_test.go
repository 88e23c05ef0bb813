package clock_test

import (
	"math/rand"
	"slices"

	"clavendier/api"
)

// This file calculates what the document promises in the plainest way: it goes through all truths, and in each of them through all minutes, one by one.

const minutes = 4320

// days is when all frosts of a clock truly were (a begin and an end each), and what it then shows in each minute.
type days struct {
	when  [][2]int
	shows [minutes]int
}

// stands reports whether the clock stands still in a minute.
func (d *days) stands(minute int) bool {
	for _, w := range d.when {
		if w[0] <= minute && minute < w[1] {
			return true
		}
	}
	return false
}

// stood counts the minutes in which the clock stands still.
func (d *days) stood() int {
	n := 0
	for m := range minutes {
		if d.stands(m) {
			n++
		}
	}
	return n
}

// live lets a clock go through three days.
func live(set int, when [][2]int) *days {
	d := &days{when: slices.Clone(when)}
	shown := set
	for m := range minutes {
		d.shows[m] = shown
		if !d.stands(m) {
			shown++
		}
	}
	return d
}

// all returns the three days in all truths of a clock.
func all(c api.ClockClock) []*days {
	whens := [][][2]int{nil}
	for _, f := range c.Frosts {
		var more [][][2]int
		for _, w := range whens {
			for b := f.Begin.Low; b <= f.Begin.High; b++ {
				for e := f.End.Low; e <= f.End.High; e++ {
					more = append(more, append(slices.Clone(w), [2]int{b, e}))
				}
			}
		}
		whens = more
	}
	var list []*days
	for _, w := range whens {
		list = append(list, live(c.Set, w))
	}
	return list
}

// bounds is the least and the greatest of some numbers.
type bounds struct {
	api.Span
	some bool
}

func (b *bounds) put(n int) {
	if !b.some {
		b.Span, b.some = api.Span{Low: n, High: n}, true
	}
	b.Low, b.High = min(b.Low, n), max(b.High, n)
}

// answer is what a function returns for such numbers.
func (b bounds) answer(none api.Errno) (api.Span, api.Errno) {
	if !b.some {
		return api.Span{}, none
	}
	return b.Span, api.OK
}

func naiveShows(ds []*days, minute int) (api.Span, api.Errno) {
	var b bounds
	for _, d := range ds {
		b.put(d.shows[minute])
	}
	return b.answer(api.ErrNone)
}

func naiveMeans(ds []*days, reading int) (api.Span, api.Errno) {
	var b bounds
	for _, d := range ds {
		for m, shown := range d.shows {
			if shown == reading {
				b.put(m)
			}
		}
	}
	return b.answer(api.ErrNone)
}

func naivePassed(ds []*days, from, to int) (api.Span, api.Errno) {
	var b bounds
	for _, d := range ds {
		var begun []int
		for m, shown := range d.shows {
			if shown == from {
				begun = append(begun, m)
			}
			if shown == to {
				for _, n := range begun {
					b.put(m - n)
				}
			}
		}
	}
	return b.answer(api.ErrNone)
}

func naiveBefore(cs []*days, reading int, ds []*days, other int) (int, api.Errno) {
	var one, two []int
	for m := range minutes {
		shows := func(d *days, reading int) bool { return d.shows[m] == reading }
		if slices.ContainsFunc(cs, func(d *days) bool { return shows(d, reading) }) {
			one = append(one, m)
		}
		if slices.ContainsFunc(ds, func(d *days) bool { return shows(d, other) }) {
			two = append(two, m)
		}
	}
	if one == nil || two == nil {
		return 0, api.ErrNone
	}
	some, every := false, true
	for _, a := range one {
		for _, b := range two {
			some = some || a < b
			every = every && a < b
		}
	}
	switch {
	case every:
		return 2, api.OK
	case some:
		return 1, api.OK
	}
	return 0, api.OK
}

// can lists the minutes in which a line can have been written, by itself.
func (d *days) can(l api.ClockLine) []int {
	var list []int
	for m := l.Known.Low; m <= l.Known.High; m++ {
		if d.shows[m] == l.Reading {
			list = append(list, m)
		}
	}
	return list
}

// courses lists for each line of a book all minutes that it has in some course in these days; nil if there is none.
func (d *days) courses(book []api.ClockLine) [][]int {
	lists := make([][]int, len(book))
	for i, l := range book {
		lists[i] = d.can(l)
	}
	// Whoever has no line before, or behind, that would fit is left out, until nobody is.
	for range book {
		for i := range lists {
			lists[i] = slices.DeleteFunc(lists[i], func(m int) bool {
				early := func(n int) bool { return n <= m }
				late := func(n int) bool { return n >= m }
				return i > 0 && !slices.ContainsFunc(lists[i-1], early) || i+1 < len(lists) && !slices.ContainsFunc(lists[i+1], late)
			})
		}
	}
	for _, l := range lists {
		if len(l) == 0 {
			return nil
		}
	}
	return lists
}

func naiveRight(ds []*days, book []api.ClockLine) bool {
	return slices.ContainsFunc(ds, func(d *days) bool { return d.courses(book) != nil })
}

func naiveTimes(ds []*days, book []api.ClockLine) []api.Span {
	all := make([]bounds, len(book))
	for _, d := range ds {
		for i, l := range d.courses(book) {
			for _, m := range l {
				all[i].put(m)
			}
		}
	}
	list := make([]api.Span, len(book))
	for i := range all {
		list[i] = all[i].Span
	}
	return list
}

func naiveStopped(ds []*days, book []api.ClockLine) api.Span {
	var b bounds
	for _, d := range ds {
		if d.courses(book) != nil {
			b.put(d.stood())
		}
	}
	return b.Span
}

// without is a book without some lines.
func without(book []api.ClockLine, out []int) []api.ClockLine {
	var rest []api.ClockLine
	for i, l := range book {
		if !slices.Contains(out, i) {
			rest = append(rest, l)
		}
	}
	return rest
}

func naiveWrong(ds []*days, book []api.ClockLine) []int {
	var best []int
	found := false
	for set := range 1 << len(book) {
		var out []int
		for i := range book {
			if set>>i&1 == 1 {
				out = append(out, i)
			}
		}
		less := len(out) < len(best) || len(out) == len(best) && slices.Compare(out, best) < 0
		if (!found || less) && naiveRight(ds, without(book, out)) {
			best, found = out, true
		}
	}
	return best
}

// someClock is a valid clock: with few minutes of frost, some of them next to each other, or over at once.
func someClock(r *rand.Rand, sets, frosts int) api.ClockClock {
	c := api.ClockClock{Set: r.Intn(sets)}
	next := func(from, far int) api.Span {
		low := from + r.Intn(far)
		return api.Span{Low: low, High: low + r.Intn(4)}
	}
	over := r.Intn(4)
	for range frosts {
		begin := next(over, 3)
		end := next(begin.High, 4)
		c.Frosts = append(c.Frosts, api.ClockFrost{Begin: begin, End: end})
		over = end.High
	}
	return c
}

// someBook is a valid book of few minutes.
func someBook(r *rand.Rand, c api.ClockClock, lines int) []api.ClockLine {
	var book []api.ClockLine
	for range lines {
		low := r.Intn(20)
		book = append(book, api.ClockLine{Reading: c.Set + r.Intn(20), Known: api.Span{Low: low, High: low + r.Intn(20)}})
	}
	return book
}

// truth is one of the truths of a clock.
func truth(r *rand.Rand, c api.ClockClock) *days {
	var when [][2]int
	in := func(s api.Span) int { return s.Low + r.Intn(s.High-s.Low+1) }
	for _, f := range c.Frosts {
		when = append(when, [2]int{in(f.Begin), in(f.End)})
	}
	return live(c.Set, when)
}

// written is a book that was written truly: lines in their order, of each of which more or less is known.
func written(r *rand.Rand, d *days, lines int) (book []api.ClockLine, at []int) {
	for range lines {
		at = append(at, r.Intn(24))
	}
	slices.Sort(at)
	for _, m := range at {
		known := api.Span{Low: max(0, m-r.Intn(30)), High: min(minutes-1, m+r.Intn(30))}
		book = append(book, api.ClockLine{Reading: d.shows[m], Known: known})
	}
	return book, at
}
