package search_test

import (
	"math/rand"
	"slices"

	"clavendier/api"
	"clavendier/slope"
	"clavendier/trail"
)

// This file calculates what the document promises in the plainest way: of a round it asks each minute in which it can be on a stretch; of searches it goes through all rounds that can be, in whichever minute they begin.

// crossing is a stretch that a round walks, and the minutes in which it can be on it.
type crossing struct {
	stretch int
	on      api.Span
}

// naiveCrossings lists all that a round walks: first all stretches out, then all of them back.
func naiveCrossings(b api.SearchBook, post, begin int) []crossing {
	var out []int
	for n := b.House - 1; n >= post; n-- {
		out = append(out, n)
	}
	for n := b.House; n < post; n++ {
		out = append(out, n)
	}
	home := slices.Clone(out)
	slices.Reverse(home)
	var list []crossing
	soonest, latest := begin, begin
	for _, n := range slices.Concat(out, home) {
		march := b.Stretches[n].March
		list = append(list, crossing{n, to(soonest, latest+march.High)})
		soonest += march.Low
		latest += march.High
	}
	return list
}

// naiveRound tells between what lies how many minutes a round takes.
func naiveRound(b api.SearchBook, post int) api.Span {
	var s api.Span
	for _, x := range naiveCrossings(b, post, 0) {
		march := b.Stretches[x.stretch].March
		s = to(s.Low+march.Low, s.High+march.High)
	}
	return s
}

// naiveHour counts the whole hours from Now to a minute.
func naiveHour(b api.SearchBook, minute int) int {
	hour := 0
	for end := b.Now + 60; end <= minute; end += 60 {
		hour++
	}
	return hour
}

// plain is a book, with the hours in which its slopes are safe, as slope.Safe tells them one by one, and how many minutes a round to each post takes at most.
type plain struct {
	api.SearchBook
	safe    [][]bool
	minutes map[int]int
}

func newPlain(b api.SearchBook) plain {
	x := plain{SearchBook: b, minutes: map[int]int{}}
	for _, post := range goals(b) {
		x.minutes[post] = naiveRound(b, post).High
	}
	for _, s := range b.Slopes {
		var safe []bool
		for hour := range s.Hours {
			is, e := slope.Safe(s, hour)
			safe = append(safe, is && e == api.OK)
		}
		x.safe = append(x.safe, safe)
	}
	return x
}

// why asks of each minute of a round whether it is safe, and of its end whether it is later than dark.
func (x plain) why(post, begin int) int {
	last := begin
	for _, c := range naiveCrossings(x.SearchBook, post, begin) {
		last = c.on.High
		n := x.Stretches[c.stretch].Slope
		for minute := c.on.Low; n >= 0 && minute <= c.on.High; minute++ {
			hour := naiveHour(x.SearchBook, minute)
			if hour >= len(x.safe[n]) || !x.safe[n][hour] {
				return api.SearchSlope
			}
		}
	}
	if last > x.Dark {
		return api.SearchDark
	}
	return api.SearchFine
}

// begins lists all minutes in which a round to a post can begin.
func (x plain) begins(post int) []int {
	var list []int
	for minute := x.Now; minute <= x.Dark; minute++ {
		if x.why(post, minute) == api.SearchFine {
			list = append(list, minute)
		}
	}
	return list
}

// goals lists all posts but the house.
func goals(b api.SearchBook) []int {
	var list []int
	for post := 0; post <= len(b.Stretches); post++ {
		if post != b.House {
			list = append(list, post)
		}
	}
	return list
}

// reach is the house, and the posts farthest from it to which a round can be.
func (x plain) reach() api.Span {
	s := at(x.House)
	for _, post := range goals(x.SearchBook) {
		if len(x.begins(post)) > 0 {
			s = to(min(s.Low, post), max(s.High, post))
		}
	}
	return s
}

// naiveWanted asks of each stretch, for each traveller, whether somebody who can live can be on it.
func naiveWanted(b api.SearchBook) []int {
	var list []int
	for n := range b.Stretches {
		must := false
		for _, t := range b.Travellers {
			own := n
			if t.Down {
				// As many stretches lie behind the one of the book as lie before the one of the traveller.
				own = len(b.Stretches[n+1:])
			}
			on, _, _ := trail.Where(t.Trail, b.Now)
			out, e := trail.Out(t.Trail, own, b.Now)
			must = must || slices.Contains(on, own) && e == api.OK && out.Low <= b.Live
		}
		if must {
			list = append(list, n)
		}
	}
	return list
}

// naiveMissed lists those of some stretches that are not between the posts of a span.
func naiveMissed(wanted []int, reach api.Span) []int {
	var list []int
	for _, n := range wanted {
		if n < reach.Low || n+1 > reach.High {
			list = append(list, n)
		}
	}
	return list
}

// sideGoals lists the posts below the house, or above it, that lie behind all stretches of this side that must be searched; none if there are no such stretches.
func sideGoals(b api.SearchBook, wanted []int, below bool) []int {
	var mine, list []int
	for _, n := range wanted {
		if (n < b.House) == below {
			mine = append(mine, n)
		}
	}
	for _, post := range goals(b) {
		behind := len(mine) > 0 && (post < b.House) == below
		for _, n := range mine {
			behind = behind && (below && post <= n || !below && post > n)
		}
		if behind {
			list = append(list, post)
		}
	}
	return list
}

// naiveSearches lists all searches, whatever they are like.
func (x plain) naiveSearches(wanted []int) [][]api.SearchRound {
	var below, above []api.SearchRound
	for _, post := range sideGoals(x.SearchBook, wanted, true) {
		for _, begin := range x.begins(post) {
			below = append(below, round(post, begin))
		}
	}
	for _, post := range sideGoals(x.SearchBook, wanted, false) {
		for _, begin := range x.begins(post) {
			above = append(above, round(post, begin))
		}
	}
	isBelow, isAbove := len(sideGoals(x.SearchBook, wanted, true)) > 0, len(sideGoals(x.SearchBook, wanted, false)) > 0
	switch {
	case isBelow && isAbove && x.Parties == 1:
		return append(x.oneByOne(below, above), x.oneByOne(above, below)...)
	case isBelow && isAbove:
		return pairs(below, above)
	case isBelow:
		return alone(below)
	case isAbove:
		return alone(above)
	}
	return [][]api.SearchRound{nil}
}

// alone is searches of one round each.
func alone(list []api.SearchRound) [][]api.SearchRound {
	var all [][]api.SearchRound
	for _, r := range list {
		all = append(all, []api.SearchRound{r})
	}
	return all
}

// pairs is searches of a round of each list.
func pairs(one, other []api.SearchRound) [][]api.SearchRound {
	var all [][]api.SearchRound
	for _, r := range one {
		for _, s := range other {
			all = append(all, []api.SearchRound{r, s})
		}
	}
	return all
}

// oneByOne is those of which the second round begins no sooner than the first one surely is back.
func (x plain) oneByOne(one, other []api.SearchRound) [][]api.SearchRound {
	var all [][]api.SearchRound
	for _, r := range one {
		back := r.Begin + x.minutes[r.Post]
		for _, s := range other {
			if s.Begin >= back {
				all = append(all, []api.SearchRound{r, s})
			}
		}
	}
	return all
}

// worth is by what searches are compared: when all rounds surely are back, and how many minutes they take together.
type worth struct{ back, minutes int }

func (x plain) worth(search []api.SearchRound) worth {
	var w worth
	for _, r := range search {
		w.back = max(w.back, r.Begin+x.minutes[r.Post])
		w.minutes += x.minutes[r.Post]
	}
	return w
}

// isFirst reports whether a list of rounds comes before another one of the same length.
func isFirst(one, other []api.SearchRound) bool {
	for i := range one {
		switch {
		case one[i].Post != other[i].Post:
			return one[i].Post < other[i].Post
		case one[i].Begin != other[i].Begin:
			return one[i].Begin < other[i].Begin
		}
	}
	return false
}

// naiveSearch returns the best search of all, and how many ways (posts, in their order) are as soon back with as few minutes; none if there is none.
func (x plain) naiveSearch(wanted []int) (best []api.SearchRound, ways int, e api.Errno) {
	all := x.naiveSearches(wanted)
	if len(all) == 0 {
		return nil, 0, api.ErrNone
	}
	best = all[0]
	for _, search := range all {
		one, other := x.worth(search), x.worth(best)
		switch {
		case one.back != other.back:
			if one.back < other.back {
				best = search
			}
		case one.minutes != other.minutes:
			if one.minutes < other.minutes {
				best = search
			}
		case isFirst(search, best):
			best = search
		}
	}
	same := map[[2]int]bool{}
	for _, search := range all {
		if len(search) == 2 && x.worth(search) == x.worth(best) {
			same[[2]int{search[0].Post, search[1].Post}] = true
		}
	}
	return best, len(same), api.OK
}

// someSpan is a span from low to high that is no wider than this.
func someSpan(r *rand.Rand, low, high, wide int) api.Span {
	from := low + r.Intn(high-low+1)
	return to(from, min(high, from+r.Intn(wide+1)))
}

// pick is a number of a span.
func pick(r *rand.Rand, s api.Span) int { return s.Low + r.Intn(s.High-s.Low+1) }

// somePattern is a slope of which about one in so many hours is not safe.
func somePattern(r *rand.Rand, oneIn int) api.SlopeBook {
	safe := make([]bool, 1+r.Intn(12))
	for i := range safe {
		safe[i] = r.Intn(oneIn) > 0
	}
	return pattern(safe...)
}

// someBook is a valid book without travellers, of which a march takes no more than this, and it is dark in so many minutes at most.
func someBook(r *rand.Rand, march, window int) api.SearchBook {
	b := api.SearchBook{Now: r.Intn(1440), Live: r.Intn(200), Parties: 1 + r.Intn(2)}
	b.Dark = min(1439, b.Now+r.Intn(window+1))
	for range r.Intn(3) {
		b.Slopes = append(b.Slopes, somePattern(r, 2+r.Intn(4)))
	}
	for range 1 + r.Intn(6) {
		s := api.SearchStretch{March: someSpan(r, 1, march, march/4), Slope: -1}
		if r.Intn(2) == 0 {
			s.Slope = r.Intn(len(b.Slopes)+1) - 1
		}
		b.Stretches = append(b.Stretches, s)
	}
	b.House = r.Intn(len(b.Stretches) + 1)
	return b
}

// gappyBook is a book whose house lies between slopes that are not safe for hours, so that one can be too soon back over them.
func gappyBook(r *rand.Rand) api.SearchBook {
	b := api.SearchBook{House: 2, Now: 100, Dark: 100 + 160 + r.Intn(150), Parties: 1 + r.Intn(2)}
	for range 4 {
		n := 5 + r.Intn(41)
		b.Stretches = append(b.Stretches, flat(n, n+r.Intn(3)))
	}
	for i, n := range []int{1, 2} {
		safe := []bool{r.Intn(5) > 0, r.Intn(5) == 0, r.Intn(5) > 0, r.Intn(2) > 0, true, true}
		b.Slopes = append(b.Slopes, pattern(safe...))
		b.Stretches[n].Slope = i - r.Intn(2)
	}
	return b
}

// someTrail is a valid trail without sights of somebody who set out so that a minute is on the way.
func someTrail(r *rand.Rand, stretches, minute int) api.TrailBook {
	b := api.TrailBook{Start: someSpan(r, max(0, minute-1-r.Intn(200)), max(0, minute-1), 30)}
	for range stretches {
		x := api.TrailStretch{Walk: someSpan(r, 1, 60, 20), Rest: someSpan(r, 0, 9, 5)}
		if r.Intn(4) == 0 {
			x.Shut = []api.Span{someSpan(r, max(0, minute-100), minute, 60)}
		}
		b.Stretches = append(b.Stretches, x)
	}
	return b
}

// setsOut is the minute in which a post is left by who is ready in a minute.
func setsOut(x api.TrailStretch, ready int) int {
	for _, s := range x.Shut {
		if s.Low <= ready && ready <= s.High {
			return s.High + 1
		}
	}
	return ready
}

// walked is a walk of a trail.
func walked(r *rand.Rand, b api.TrailBook) []int {
	walk := []int{pick(r, b.Start)}
	stays := r.Intn(2 * len(b.Stretches))
	for n, x := range b.Stretches {
		left := setsOut(x, walk[len(walk)-1]+pick(r, x.Rest))
		walk = append(walk, left)
		if n == stays {
			break
		}
		walk = append(walk, left+pick(r, x.Walk))
	}
	return walk
}

// isAt reports whether a traveller is at a post in a minute.
func isAt(walk []int, post, minute int) bool {
	came, left := 2*post, 2*post+1
	return came < len(walk) && walk[came] <= minute && (left >= len(walk) || minute <= walk[left])
}

// isOn reports whether a traveller is on a stretch in a minute.
func isOn(walk []int, stretch, minute int) bool {
	left, came := 2*stretch+1, 2*stretch+2
	return left < len(walk) && walk[left] < minute && (came >= len(walk) || minute < walk[came])
}

// rightSight is a sight that is right in a walk.
func rightSight(r *rand.Rand, b api.TrailBook, walk []int) api.TrailSight {
	s := api.TrailSight{Post: r.Intn(len(b.Stretches) + 1)}
	near := max(0, walk[min(2*s.Post, len(walk)-1)]-r.Intn(20))
	s.Minutes = to(near, near+r.Intn(40))
	for minute := s.Minutes.Low; minute <= s.Minutes.High; minute++ {
		s.Seen = s.Seen || isAt(walk, s.Post, minute)
	}
	return s
}

// seenTrail is a trail with so many sights at most that all are right in a walk of it.
func seenTrail(r *rand.Rand, stretches, minute, sights int) (api.TrailBook, []int) {
	b := someTrail(r, stretches, minute)
	walk := walked(r, b)
	for range r.Intn(sights + 1) {
		b.Sights = append(b.Sights, rightSight(r, b, walk))
	}
	return b, walk
}

// missing is a book to which travellers were added, up to three in all.
func missing(r *rand.Rand, b api.SearchBook) api.SearchBook {
	b.Travellers = slices.Clone(b.Travellers)
	for len(b.Travellers) < 3 && r.Intn(4) > 0 {
		t, _ := seenTrail(r, len(b.Stretches), b.Now, 4)
		b.Travellers = append(b.Travellers, api.SearchTraveller{Trail: t, Down: r.Intn(2) == 0})
	}
	return b
}

// snow is the load of a slope in each hour, and whether it let go in it, as it truly was.
type snow struct {
	loads []int
	fell  []bool
}

// fallen is what truly was of a slope, between what is known.
func fallen(r *rand.Rand, b api.SlopeBook) snow {
	var x snow
	left := pick(r, b.Start)
	for _, h := range b.Hours {
		load := max(0, left-b.Slope.Settle) + b.Slope.Snow*pick(r, h.New) + b.Slope.Wind*pick(r, h.Wind) + b.Slope.Sun*pick(r, h.Sun)
		fell := load > b.Slope.Hold && r.Intn(2) == 0
		x.loads, x.fell = append(x.loads, load), append(x.fell, fell)
		left = load
		if fell {
			left = 0
		}
	}
	return x
}

// seenSlope is any slope, of which some was seen that is right, and what truly was of it.
func seenSlope(r *rand.Rand) (api.SlopeBook, snow) {
	b := api.SlopeBook{
		Slope: api.SlopeSlope{Snow: r.Intn(6), Wind: r.Intn(6), Sun: r.Intn(6), Settle: r.Intn(31), Hold: 20 + r.Intn(60)},
		Start: someSpan(r, 0, 60, 20),
	}
	for range 3 + r.Intn(10) {
		b.Hours = append(b.Hours, api.SlopeHour{New: someSpan(r, 0, 5, 3), Wind: someSpan(r, 0, 5, 3), Sun: someSpan(r, 0, 5, 3)})
	}
	x := fallen(r, b)
	for range r.Intn(7) {
		h := r.Intn(len(b.Hours))
		b.Sights = append(b.Sights, api.SlopeSight{Hour: h, Fell: x.fell[h], Load: to(max(0, x.loads[h]-r.Intn(9)), x.loads[h]+r.Intn(9))})
	}
	return b, x
}
