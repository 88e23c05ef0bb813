package slope_test

import (
	"math/rand"
	"slices"

	"clavendier/api"
)

// This file calculates what the document promises in the plainest way: it goes through all truths of small books, one by one; of wide ones through all that can be left behind each hour.

// truth is the load in each hour, and whether the slope lets go in it.
type truth struct {
	loads []int
	fell  []bool
}

// falls returns how often the slope lets go.
func (x truth) falls() int {
	n := 0
	for _, fell := range x.fell {
		if fell {
			n++
		}
	}
	return n
}

// left returns what is left before the hour behind the last one of a truth.
func (x truth) left(start int) int {
	last := len(x.loads) - 1
	switch {
	case last < 0:
		return start
	case x.fell[last]:
		return 0
	}
	return x.loads[last]
}

// brought lists what an hour brings, for each number of each span.
func brought(s api.SlopeSlope, h api.SlopeHour) []int {
	var list []int
	for n := h.New.Low; n <= h.New.High; n++ {
		for w := h.Wind.Low; w <= h.Wind.High; w++ {
			for u := h.Sun.Low; u <= h.Sun.High; u++ {
				list = append(list, s.Snow*n+s.Wind*w+s.Sun*u)
			}
		}
	}
	return list
}

// loaded is the load of what was left, and what an hour brings.
func loaded(s api.SlopeSlope, left, brings int) int {
	if left < s.Settle {
		return brings
	}
	return left - s.Settle + brings
}

// isRight asks all that the chapter says of a sight that is right.
func isRight(s api.SlopeSight, load int, fell bool) bool {
	return fell == s.Fell && s.Load.Low <= load && load <= s.Load.High
}

// allTruths lists all truths of a book, whatever was seen.
func allTruths(b api.SlopeBook) []truth {
	var list []truth
	for start := b.Start.Low; start <= b.Start.High; start++ {
		some := []truth{{}}
		for _, h := range b.Hours {
			var longer []truth
			for _, x := range some {
				for _, n := range brought(b.Slope, h) {
					load := loaded(b.Slope, x.left(start), n)
					longer = append(longer, truth{append(slices.Clone(x.loads), load), append(slices.Clone(x.fell), false)})
					if load > b.Slope.Hold {
						longer = append(longer, truth{append(slices.Clone(x.loads), load), append(slices.Clone(x.fell), true)})
					}
				}
			}
			some = longer
		}
		list = append(list, some...)
	}
	return list
}

// itsTruths lists those of some truths in which all sights are right.
func itsTruths(all []truth, sights []api.SlopeSight) []truth {
	var list []truth
	for _, x := range all {
		wrong := func(s api.SlopeSight) bool { return !isRight(s, x.loads[s.Hour], x.fell[s.Hour]) }
		if !slices.ContainsFunc(sights, wrong) {
			list = append(list, x)
		}
	}
	return list
}

// told is all that can be told of a book that can be true.
type told struct {
	loads []api.Span
	free  []int
	falls api.Span
}

// naiveTold tells it of some truths; there must be one.
func naiveTold(b api.SlopeBook, truths []truth) told {
	var list told
	for h := range b.Hours {
		var loads []int
		for _, x := range truths {
			loads = append(loads, x.loads[h])
		}
		list.loads = append(list.loads, to(slices.Min(loads), slices.Max(loads)))
		if !slices.ContainsFunc(loads, func(load int) bool { return load > b.Slope.Hold }) {
			list.free = append(list.free, h)
		}
	}
	var falls []int
	for _, x := range truths {
		falls = append(falls, x.falls())
	}
	list.falls = to(slices.Min(falls), slices.Max(falls))
	return list
}

// naiveUntil returns the last hour before the slope may let go, if from is safe.
func naiveUntil(free []int, from int) (int, bool) {
	if !slices.Contains(free, from) {
		return 0, false
	}
	for slices.Contains(free, from+1) {
		from++
	}
	return from, true
}

// naiveCross returns the first hour from one on of so many safe hours, if there is one.
func naiveCross(free []int, from, long int) (int, bool) {
	for _, begin := range free {
		fits := begin >= from
		for h := begin; h < begin+long; h++ {
			fits = fits && slices.Contains(free, h)
		}
		if fits {
			return begin, true
		}
	}
	return 0, false
}

// without is some sights without others.
func without(sights []api.SlopeSight, out []int) []api.SlopeSight {
	var rest []api.SlopeSight
	for i, s := range sights {
		if !slices.Contains(out, i) {
			rest = append(rest, s)
		}
	}
	return rest
}

// subsets lists all strictly increasing lists of numbers below n: shorter ones first, then the first one first.
func subsets(n int) [][]int {
	var all [][]int
	for members := range 1 << n {
		var list []int
		for i := range n {
			if members>>i&1 == 1 {
				list = append(list, i)
			}
		}
		all = append(all, list)
	}
	slices.SortFunc(all, func(a, b []int) int {
		if len(a) != len(b) {
			return len(a) - len(b)
		}
		return slices.Compare(a, b)
	})
	return all
}

// naiveWrong returns the fewest sights that must be wrong, of all truths of a book.
func naiveWrong(all []truth, sights []api.SlopeSight) []int {
	for _, out := range subsets(len(sights)) {
		if len(itsTruths(all, without(sights, out))) > 0 {
			return out
		}
	}
	return nil
}

// state is what is left, and how often the slope has let go until then.
type state struct{ left, falls int }

// lastStates returns all that there can be behind the last hour, if all sights are right.
func lastStates(b api.SlopeBook, sights ...api.SlopeSight) map[state]bool {
	now := map[state]bool{}
	for start := b.Start.Low; start <= b.Start.High; start++ {
		now[state{start, 0}] = true
	}
	for i, h := range b.Hours {
		wrong := func(load int, fell bool) bool {
			return slices.ContainsFunc(sights, func(s api.SlopeSight) bool { return s.Hour == i && !isRight(s, load, fell) })
		}
		next := map[state]bool{}
		for x := range now {
			for _, n := range brought(b.Slope, h) {
				load := loaded(b.Slope, x.left, n)
				if !wrong(load, false) {
					next[state{load, x.falls}] = true
				}
				if load > b.Slope.Hold && !wrong(load, true) {
					next[state{0, x.falls + 1}] = true
				}
			}
		}
		now = next
	}
	return now
}

// canHave reports whether the load in an hour can lie in a span.
func canHave(b api.SlopeBook, hour int, load api.Span) bool {
	for _, fell := range []bool{false, true} {
		s := api.SlopeSight{Hour: hour, Fell: fell, Load: load}
		if len(lastStates(b, append(slices.Clone(b.Sights), s)...)) > 0 {
			return true
		}
	}
	return false
}

// someSpan is a span from 0 to most that is no wider than this.
func someSpan(r *rand.Rand, most, wide int) api.Span {
	low := r.Intn(most + 1)
	return to(low, min(most, low+r.Intn(wide+1)))
}

// smallBook is a valid book with few truths, and no sights.
func smallBook(r *rand.Rand, hours int) api.SlopeBook {
	b := api.SlopeBook{
		Slope: api.SlopeSlope{Snow: r.Intn(4), Wind: r.Intn(4), Sun: r.Intn(3), Settle: r.Intn(5), Hold: 1 + r.Intn(20)},
		Start: someSpan(r, 15, 2),
	}
	for range hours {
		h := api.SlopeHour{New: someSpan(r, 4, 1), Wind: someSpan(r, 3, 1)}
		if r.Intn(3) == 0 {
			h.Sun = someSpan(r, 5, 1)
		}
		b.Hours = append(b.Hours, h)
	}
	return b
}

// wideBook is a valid book of any size, without sights.
func wideBook(r *rand.Rand) api.SlopeBook {
	b := api.SlopeBook{
		Slope: api.SlopeSlope{Snow: r.Intn(6), Wind: r.Intn(6), Sun: r.Intn(6), Settle: r.Intn(31), Hold: 1 + r.Intn(120)},
		Start: someSpan(r, []int{60, 300}[r.Intn(2)], r.Intn(50)),
	}
	for range 1 + r.Intn(12) {
		h := api.SlopeHour{New: someSpan(r, 9, 3), Wind: someSpan(r, 5, 3), Sun: someSpan(r, 5, 3)}
		b.Hours = append(b.Hours, h)
	}
	return b
}

// someSight is any valid sight of a book.
func someSight(r *rand.Rand, b api.SlopeBook) api.SlopeSight {
	return api.SlopeSight{Hour: r.Intn(len(b.Hours)), Fell: r.Intn(3) == 0, Load: someSpan(r, 2*b.Slope.Hold, 30)}
}

// lived is a truth of a book.
func lived(r *rand.Rand, b api.SlopeBook) truth {
	var x truth
	start := b.Start.Low + r.Intn(b.Start.High-b.Start.Low+1)
	for _, h := range b.Hours {
		could := brought(b.Slope, h)
		load := loaded(b.Slope, x.left(start), could[r.Intn(len(could))])
		x.loads, x.fell = append(x.loads, load), append(x.fell, load > b.Slope.Hold && r.Intn(2) == 0)
	}
	return x
}

// seen is a sight that is right in a truth.
func (x truth) seen(r *rand.Rand) api.SlopeSight {
	h := r.Intn(len(x.loads))
	return api.SlopeSight{Hour: h, Fell: x.fell[h], Load: to(max(0, x.loads[h]-r.Intn(8)), x.loads[h]+r.Intn(8))}
}
