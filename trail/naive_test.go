package trail_test

import (
	"math/rand"
	"slices"

	"clavendier/api"
)

// This file calculates what the document promises in the plainest way: it goes through all walks of small trails, one by one; of wide ones through all minutes in which each post can be reached.

// setsOut is the minute in which a post is left by who is ready in a minute.
func setsOut(x api.TrailStretch, ready int) int {
	for _, s := range x.Shut {
		if s.Low <= ready && ready <= s.High {
			return s.High + 1
		}
	}
	return ready
}

// allWalks lists all walks of a trail, whatever is said.
func allWalks(b api.TrailBook) [][]int {
	var list [][]int
	var add func(walk []int)
	add = func(walk []int) {
		post, came := len(walk)/2, walk[len(walk)-1]
		if post == len(b.Stretches) {
			list = append(list, walk)
			return
		}
		x := b.Stretches[post]
		for rest := x.Rest.Low; rest <= x.Rest.High; rest++ {
			left := setsOut(x, came+rest)
			list = append(list, slices.Concat(walk, []int{left}))
			for pace := x.Walk.Low; pace <= x.Walk.High; pace++ {
				add(slices.Concat(walk, []int{left, left + pace}))
			}
		}
	}
	for minute := b.Start.Low; minute <= b.Start.High; minute++ {
		add([]int{minute})
	}
	return list
}

// isAt reports whether the traveller is at a post in a minute.
func isAt(walk []int, post, minute int) bool {
	switch came, left := 2*post, 2*post+1; {
	case came >= len(walk):
		return false
	case left >= len(walk):
		return walk[came] <= minute
	default:
		return walk[came] <= minute && minute <= walk[left]
	}
}

// isOn reports whether the traveller is on a stretch in a minute.
func isOn(walk []int, stretch, minute int) bool {
	switch left, came := 2*stretch+1, 2*stretch+2; {
	case left >= len(walk):
		return false
	case came >= len(walk):
		return walk[left] < minute
	default:
		return walk[left] < minute && minute < walk[came]
	}
}

// isRight asks of each minute of a sight whether the traveller was there.
func isRight(walk []int, s api.TrailSight) bool {
	there := false
	for minute := s.Minutes.Low; minute <= s.Minutes.High; minute++ {
		there = there || isAt(walk, s.Post, minute)
	}
	return there == s.Seen
}

// areRight reports whether all of some sights are right.
func areRight(walk []int, sights []api.TrailSight) bool {
	return !slices.ContainsFunc(sights, func(s api.TrailSight) bool { return !isRight(walk, s) })
}

// truths lists those of some walks in which all sights are right.
func truths(all [][]int, sights ...api.TrailSight) [][]int {
	var list [][]int
	for _, walk := range all {
		if areRight(walk, sights) {
			list = append(list, walk)
		}
	}
	return list
}

// naiveWhere tells of some truths on which stretches, and at which posts, the traveller is in a minute.
func naiveWhere(b api.TrailBook, truths [][]int, minute int) (stretches, posts []int) {
	for n := range len(b.Stretches) + 1 {
		if slices.ContainsFunc(truths, func(walk []int) bool { return isOn(walk, n, minute) }) {
			stretches = append(stretches, n)
		}
		if slices.ContainsFunc(truths, func(walk []int) bool { return isAt(walk, n, minute) }) {
			posts = append(posts, n)
		}
	}
	return stretches, posts
}

// spanOf is the least and the greatest of some numbers, if there is one.
func spanOf(list []int) (api.Span, bool) {
	if len(list) == 0 {
		return api.Span{}, false
	}
	return to(slices.Min(list), slices.Max(list)), true
}

// naiveComes tells of some truths in which minutes a post is reached.
func naiveComes(truths [][]int, post int) (api.Span, bool) {
	var list []int
	for _, walk := range truths {
		if 2*post < len(walk) {
			list = append(list, walk[2*post])
		}
	}
	return spanOf(list)
}

// naiveSurely tells of some truths whether a post is reached in all of them.
func naiveSurely(truths [][]int, post int) int {
	reached := 0
	for _, walk := range truths {
		if 2*post < len(walk) {
			reached++
		}
	}
	switch reached {
	case 0:
		return 0
	case len(truths):
		return 2
	}
	return 1
}

// naiveLies tells of some truths on which stretches the traveller stayed.
func naiveLies(b api.TrailBook, truths [][]int) []int {
	var list []int
	for n := range b.Stretches {
		if slices.ContainsFunc(truths, func(walk []int) bool { return len(walk) == 2*n+2 }) {
			list = append(list, n)
		}
	}
	return list
}

// naiveOut tells of some truths how long the traveller has been on a stretch.
func naiveOut(truths [][]int, stretch, minute int) (api.Span, bool) {
	var list []int
	for _, walk := range truths {
		if isOn(walk, stretch, minute) {
			list = append(list, minute-walk[2*stretch+1])
		}
	}
	return spanOf(list)
}

// without is some sights without others.
func without(sights []api.TrailSight, out []int) []api.TrailSight {
	var rest []api.TrailSight
	for i, s := range sights {
		if !slices.Contains(out, i) {
			rest = append(rest, s)
		}
	}
	return rest
}

// subsets lists all strictly increasing lists of numbers below n: shorter ones first, then the first one first.
func subsets(n int) [][]int {
	var all [][]int
	for members := range 1 << n {
		var list []int
		for i := range n {
			if members>>i&1 == 1 {
				list = append(list, i)
			}
		}
		all = append(all, list)
	}
	slices.SortFunc(all, func(a, b []int) int {
		if len(a) != len(b) {
			return len(a) - len(b)
		}
		return slices.Compare(a, b)
	})
	return all
}

// naiveWrong returns the fewest sights that must be wrong, of all walks of a trail.
func naiveWrong(all [][]int, sights []api.TrailSight) []int {
	for _, out := range subsets(len(sights)) {
		if len(truths(all, without(sights, out)...)) > 0 {
			return out
		}
	}
	return nil
}

// naiveAsk returns the post that leaves the fewest stretches at the worst, of some truths.
func naiveAsk(b api.TrailBook, some [][]int, minutes api.Span, minute int) int {
	var worst []int
	for post := range len(b.Stretches) + 1 {
		most := 0
		for _, is := range []bool{true, false} {
			left, _ := naiveWhere(b, truths(some, api.TrailSight{Post: post, Minutes: minutes, Seen: is}), minute)
			most = max(most, len(left))
		}
		worst = append(worst, most)
	}
	return slices.Index(worst, slices.Min(worst))
}

// ages is behind all minutes.
const ages = 1 << 20

// step is when a post is reached and left, and when the next one is reached; ages if never.
type step struct{ post, came, left, next int }

// isRight reports whether all sights at the post of a step are right.
func (x step) isRight(sights []api.TrailSight) bool {
	for _, s := range sights {
		there := false
		for minute := s.Minutes.Low; minute <= s.Minutes.High; minute++ {
			there = there || x.came <= minute && minute <= x.left
		}
		if s.Post == x.post && there != s.Seen {
			return false
		}
	}
	return true
}

// isSeenBehind reports whether the traveller was seen at a post behind this one.
func isSeenBehind(sights []api.TrailSight, post int) bool {
	return slices.ContainsFunc(sights, func(s api.TrailSight) bool { return s.Seen && s.Post > post })
}

// some reports whether there is a truth with a step of which something is so: it follows in which minutes a post can be reached, where it was not so yet (0), and where it was (1).
func some(b api.TrailBook, is func(x step) bool) bool {
	var now [2][7000]bool
	for minute := b.Start.Low; minute <= b.Start.High; minute++ {
		now[0][minute] = true
	}
	found := false
	for post := range len(b.Stretches) + 1 {
		var next [2][7000]bool
		follow := func(so int, x step) {
			if so == 0 && is(x) {
				so = 1
			}
			switch {
			case x.next < ages:
				next[so][x.next] = true
			case so == 1 && !isSeenBehind(b.Sights, post):
				found = true
			}
		}
		for so := range now {
			for came := range now[so] {
				if now[so][came] {
					stepsFrom(b, post, came, func(x step) { follow(so, x) })
				}
			}
		}
		now = next
	}
	return found
}

// stepsFrom goes through all steps from a post that is reached in a minute in which the sights at it are right.
func stepsFrom(b api.TrailBook, post, came int, each func(x step)) {
	if post == len(b.Stretches) {
		if x := (step{post, came, ages, ages}); x.isRight(b.Sights) {
			each(x)
		}
		return
	}
	stretch := b.Stretches[post]
	for rest := stretch.Rest.Low; rest <= stretch.Rest.High; rest++ {
		x := step{post, came, setsOut(stretch, came+rest), ages}
		if !x.isRight(b.Sights) {
			continue
		}
		each(x)
		for pace := stretch.Walk.Low; pace <= stretch.Walk.High; pace++ {
			each(step{post, x.came, x.left, x.left + pace})
		}
	}
}

// someSpan is a span from low to high that is no wider than this.
func someSpan(r *rand.Rand, low, high, wide int) api.Span {
	first := low + r.Intn(high-low+1)
	return to(first, min(high, first+r.Intn(wide+1)))
}

// someShut are times in which a stretch is shut.
func someShut(r *rand.Rand, high, wide int) []api.Span {
	var list []api.Span
	for low := 0; len(list) < 3 && low <= high && r.Intn(3) > 0; low = list[len(list)-1].High + 2 {
		list = append(list, someSpan(r, low, high, wide))
	}
	return list
}

// smallTrail is a valid trail with few walks, and no sights.
func smallTrail(r *rand.Rand) api.TrailBook {
	b := api.TrailBook{Start: someSpan(r, 0, 8, 2)}
	for range 1 + r.Intn(3) {
		x := api.TrailStretch{Walk: someSpan(r, 1, 6, 2), Rest: someSpan(r, 0, 3, 2), Shut: someShut(r, 25, 4)}
		b.Stretches = append(b.Stretches, x)
	}
	return b
}

// wideTrail is a valid trail of any length, without sights, of which nothing is wider than this.
func wideTrail(r *rand.Rand, wide int) api.TrailBook {
	b := api.TrailBook{Start: someSpan(r, 0, 1439, wide)}
	for range 1 + r.Intn(6) {
		x := api.TrailStretch{Walk: someSpan(r, 1, 240, wide), Rest: someSpan(r, 0, 120, wide), Shut: someShut(r, 4000, 400)}
		b.Stretches = append(b.Stretches, x)
	}
	return b
}

// lived is a walk of a trail.
func lived(r *rand.Rand, b api.TrailBook) []int {
	one := func(s api.Span) int { return s.Low + r.Intn(s.High-s.Low+1) }
	walk := []int{one(b.Start)}
	for _, x := range b.Stretches {
		walk = append(walk, setsOut(x, walk[len(walk)-1]+one(x.Rest)))
		if r.Intn(8) == 0 {
			return walk
		}
		walk = append(walk, walk[len(walk)-1]+one(x.Walk))
	}
	return walk
}

// rightSight is a sight that is right in a walk.
func rightSight(r *rand.Rand, b api.TrailBook, walk []int, wide int) api.TrailSight {
	s := anySight(r, b, walk, wide)
	s.Seen = isAt(walk, s.Post, s.Minutes.Low)
	for minute := s.Minutes.Low; minute <= s.Minutes.High; minute++ {
		s.Seen = s.Seen || isAt(walk, s.Post, minute)
	}
	return s
}

// anySight is a sight at a post, about when a walk came there.
func anySight(r *rand.Rand, b api.TrailBook, walk []int, wide int) api.TrailSight {
	post := r.Intn(len(b.Stretches) + 1)
	low := walk[min(2*post, len(walk)-1)] + r.Intn(2*wide+1) - wide
	low = max(0, min(4000, low))
	return api.TrailSight{Post: post, Minutes: to(low, min(4000, low+r.Intn(wide+1))), Seen: r.Intn(2) == 0}
}

// someSights are some sights: most of them are right in one walk.
func someSights(r *rand.Rand, b api.TrailBook, most, wide int) []api.TrailSight {
	var list []api.TrailSight
	one := lived(r, b)
	for range r.Intn(most + 1) {
		if r.Intn(4) == 0 {
			list = append(list, anySight(r, b, one, wide))
		} else {
			list = append(list, rightSight(r, b, one, wide))
		}
	}
	return list
}
