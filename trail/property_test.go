package trail_test

import (
	"fmt"
	"math/rand"
	"slices"
	"testing"

	"clavendier/api"
	"clavendier/trail"
)

// isSubset reports whether all numbers of a list are in another one.
func isSubset(list, all []int) bool {
	return !slices.ContainsFunc(list, func(n int) bool { return !slices.Contains(all, n) })
}

// inside reports whether a span lies in another one.
func inside(one, other api.Span) bool { return other.Low <= one.Low && one.High <= other.High }

// more is a trail with more sights than it has.
func more(b api.TrailBook, sights ...api.TrailSight) api.TrailBook {
	return with(b, slices.Concat(b.Sights, sights)...)
}

// isTrue reports whether a trail has a truth.
func isTrue(t *testing.T, b api.TrailBook) bool {
	t.Helper()
	_, e := trail.Lies(b)
	if e != api.OK && e != api.ErrTrailNot {
		t.Fatalf("%v: error %d", b, e)
	}
	return e == api.OK
}

// askAll asks everything of a trail.
func askAll(b api.TrailBook) string {
	lies, e1 := trail.Lies(b)
	wrong, e2 := trail.Wrong(b)
	is, e3 := trail.IsTruth(b, []int{4, 5, 6, 7})
	text := fmt.Sprint(trail.Check(b), lies, e1, wrong, e2, is, e3)
	for n := -1; n <= len(b.Stretches)+1; n++ {
		stretches, posts, e1 := trail.Where(b, 5*n)
		came, e2 := trail.Comes(b, n)
		sure, e3 := trail.Surely(b, n)
		long, e4 := trail.Out(b, n, 10+n)
		ask, e5 := trail.Ask(b, to(n, 5*n), 10)
		text += fmt.Sprint("; ", stretches, posts, e1, came, e2, sure, e3, long, e4, ask, e5)
	}
	return text
}

// found is what is returned: a span, or that there is none, or the error of the trail.
func found(s api.Span, is bool, code api.Errno) (api.Span, api.Errno) {
	switch {
	case code != api.OK:
		return api.Span{}, code
	case !is:
		return api.Span{}, api.ErrNone
	}
	return s, api.OK
}

// P4.1 to P4.7, R6: all functions do as the plainest calculation does.
func TestAsCalculatedPlainly(t *testing.T) {
	r := rand.New(rand.NewSource(1))
	trues := 0
	for range 350 {
		b := smallTrail(r)
		b.Sights = someSights(r, b, 6, 4)
		call := fmt.Sprintf("%v: ", b)
		all := allWalks(b)
		some := truths(all, b.Sights...)
		code := api.ErrTrailNot
		if len(some) > 0 {
			trues++
			code = api.OK
		}
		wrong, e := trail.Wrong(b)
		wantList(t, call+"Wrong", wrong, e, naiveWrong(all, b.Sights), api.OK)
		lies, e := trail.Lies(b)
		wantList(t, call+"Lies", lies, e, naiveLies(b, some), code)
		for post := range len(b.Stretches) + 1 {
			must, f := found(naiveComesAnd(some, post, code))
			came, e := trail.Comes(b, post)
			want(t, call+"Comes", came, e, must, f)
			n, e := trail.Surely(b, post)
			want(t, call+"Surely", n, e, naiveSurelyAnd(some, post, code), code)
		}
		minutesAsCalculatedPlainly(t, r, b, some, code)
	}
	if trues < 150 || trues > 320 {
		t.Errorf("%d of 350 trails have a truth: too few of a kind", trues)
	}
}

// naiveComesAnd is what Comes tells, with the error of the trail.
func naiveComesAnd(some [][]int, post int, code api.Errno) (api.Span, bool, api.Errno) {
	s, is := naiveComes(some, post)
	return s, is, code
}

// naiveSurelyAnd is what Surely tells, 0 with an error.
func naiveSurelyAnd(some [][]int, post int, code api.Errno) int {
	if code != api.OK {
		return 0
	}
	return naiveSurely(some, post)
}

// minutesAsCalculatedPlainly compares what Where, Out and Ask return.
func minutesAsCalculatedPlainly(t *testing.T, r *rand.Rand, b api.TrailBook, some [][]int, code api.Errno) {
	t.Helper()
	for _, minute := range []int{0, 4000, r.Intn(10), r.Intn(20), r.Intn(30), r.Intn(40), r.Intn(60), r.Intn(4001)} {
		call := fmt.Sprintf("%v", b)
		stretches, posts := naiveWhere(b, some, minute)
		wantWhere(t, call, b, minute, stretches, posts, code)
		for stretch := range b.Stretches {
			s, is := naiveOut(some, stretch, minute)
			must, f := found(s, is, code)
			long, e := trail.Out(b, stretch, minute)
			want(t, fmt.Sprintf("%s: Out of %d at %d", call, stretch, minute), long, e, must, f)
		}
		minutes, must := someSpan(r, 0, 30, 10), 0
		if code == api.OK {
			must = naiveAsk(b, some, minutes, minute)
		}
		post, e := trail.Ask(b, minutes, minute)
		want(t, fmt.Sprintf("%s: Ask of %v at %d", call, minutes, minute), post, e, must, code)
	}
}

// P4.1: of lists of minutes just those are walks, and truths, that the plainest calculation lists.
func TestWalksAsCalculatedPlainly(t *testing.T) {
	r := rand.New(rand.NewSource(2))
	walks, notWalks := 0, 0
	for range 300 {
		b := smallTrail(r)
		b.Sights = someSights(r, b, 3, 4)
		all := allWalks(b)
		listed := map[string]bool{}
		for _, walk := range all {
			listed[fmt.Sprint(walk)] = true
		}
		for range 40 {
			walk := slices.Clone(all[r.Intn(len(all))])
			if r.Intn(3) > 0 {
				i := r.Intn(len(walk))
				walk[i] += r.Intn(7) - 3
			}
			if r.Intn(5) == 0 {
				walk = walk[:r.Intn(len(walk)+1)]
			}
			must := listed[fmt.Sprint(walk)]
			is, e := trail.IsWalk(b, walk)
			want(t, fmt.Sprintf("%v: IsWalk %v", b, walk), is, e, must, api.OK)
			is, e = trail.IsTruth(b, walk)
			want(t, fmt.Sprintf("%v: IsTruth %v", b, walk), is, e, must && areRight(walk, b.Sights), api.OK)
			if must {
				walks++
			} else {
				notWalks++
			}
		}
	}
	if walks < 2000 || notWalks < 2000 {
		t.Errorf("%d walks, %d others: too few of a kind", walks, notWalks)
	}
}

// P4.2 to P4.5: the same with wide trails: what is told can be, and nothing else.
func TestWideTrailsAsCalculatedPlainly(t *testing.T) {
	r := rand.New(rand.NewSource(3))
	trues := 0
	for range 80 {
		b := wideTrail(r, 30)
		b.Sights = someSights(r, b, 6, 20)
		is := some(b, func(step) bool { return true })
		if isTrue(t, b) != is {
			t.Errorf("%v: there is a truth: %v", b, is)
		}
		if !is {
			continue
		}
		trues++
		walk := lived(r, b)
		for _, near := range []int{walk[r.Intn(len(walk))], r.Intn(4001)} {
			minuteOfWideTrail(t, b, min(4000, near))
		}
		post := r.Intn(len(b.Stretches) + 1)
		came, e := trail.Comes(b, post)
		reached := func(in func(minute int) bool) bool {
			return some(b, func(x step) bool { return x.post == post && in(x.came) })
		}
		switch {
		case e == api.ErrNone:
			if reached(func(int) bool { return true }) {
				t.Errorf("%v: the post %d can be reached", b, post)
			}
		case !reached(func(m int) bool { return m == came.Low }) || !reached(func(m int) bool { return m == came.High }) ||
			reached(func(m int) bool { return m < came.Low || m > came.High }):
			t.Errorf("%v: the post %d is not reached in %v, error %d", b, post, came, e)
		}
		lies, e := trail.Lies(b)
		for n := range b.Stretches {
			stayed := some(b, func(x step) bool { return x.post == n && x.next == ages })
			if stayed != slices.Contains(lies, n) {
				t.Errorf("%v: lies are %v, error %d, but of %d: %v", b, lies, e, n, stayed)
			}
		}
	}
	if trues < 40 {
		t.Errorf("%d of 80 trails have a truth: too few", trues)
	}
}

// minuteOfWideTrail compares what Where and Out return of a minute.
func minuteOfWideTrail(t *testing.T, b api.TrailBook, minute int) {
	t.Helper()
	stretches, posts, e := trail.Where(b, minute)
	for n := range len(b.Stretches) + 1 {
		is := some(b, func(x step) bool { return x.post == n && x.came <= minute && minute <= x.left })
		if is != slices.Contains(posts, n) {
			t.Errorf("%v: at %d the posts are %v, error %d, but of %d: %v", b, minute, posts, e, n, is)
		}
	}
	for n := range b.Stretches {
		on := func(low, high int) bool {
			return some(b, func(x step) bool {
				return x.post == n && x.left < minute && minute < x.next && low <= minute-x.left && minute-x.left <= high
			})
		}
		if on(0, ages) != slices.Contains(stretches, n) {
			t.Errorf("%v: at %d the stretches are %v, error %d, but of %d: %v", b, minute, stretches, e, n, on(0, ages))
		}
		long, e := trail.Out(b, n, minute)
		switch {
		case e == api.ErrNone:
			if on(0, ages) {
				t.Errorf("%v: Out of %d at %d: error %d", b, n, minute, e)
			}
		case !on(long.Low, long.Low) || !on(long.High, long.High) || on(0, long.Low-1) || on(long.High+1, ages):
			t.Errorf("%v: Out of %d at %d: %v, error %d", b, n, minute, long, e)
		}
	}
}

// P4.6: the same of the sights of wide trails.
func TestWideWrongAsCalculatedPlainly(t *testing.T) {
	r := rand.New(rand.NewSource(4))
	longest := 0
	for range 60 {
		b := wideTrail(r, 8)
		b.Stretches = b.Stretches[:min(3, len(b.Stretches))]
		walk := lived(r, b)
		for range 1 + r.Intn(6) {
			b.Sights = append(b.Sights, anySight(r, b, walk, 15))
		}
		wrong, e := trail.Wrong(b)
		longest = max(longest, len(wrong))
		for _, out := range subsets(len(b.Sights)) {
			if some(with(b, without(b.Sights, out)...), func(step) bool { return true }) {
				wantList(t, fmt.Sprintf("%v: Wrong", b), wrong, e, out, api.OK)
				break
			}
		}
	}
	if longest < 3 {
		t.Errorf("no more than %d sights were wrong in any trail", longest)
	}
}

// P4.9: wherever the traveller truly was, it is told that this can be.
func TestWhereTheTravellerCanBe(t *testing.T) {
	r := rand.New(rand.NewSource(5))
	on, stayed := 0, 0
	for range 160 {
		b := wideTrail(r, 240)
		walk := lived(r, b)
		for range r.Intn(7) {
			b.Sights = append(b.Sights, rightSight(r, b, walk, 40))
		}
		call := fmt.Sprintf("%v, %v", b, walk)
		is, e := trail.IsTruth(b, walk)
		want(t, call+": IsTruth", is, e, true, api.OK)
		wrong, e := trail.Wrong(b)
		wantList(t, call+": Wrong", wrong, e, nil, api.OK)
		for range 6 {
			minute := max(0, min(4000, walk[r.Intn(len(walk))]+r.Intn(41)-20))
			on += truePlace(t, b, walk, minute)
		}
		for post := range len(b.Stretches) + 1 {
			reached := 2*post < len(walk)
			sure, e := trail.Surely(b, post)
			came, f := trail.Comes(b, post)
			if e != api.OK || reached && (sure == 0 || f != api.OK || !inside(at(walk[2*post]), came)) || !reached && sure == 2 {
				t.Errorf("%s: the post %d is reached in %v, error %d, surely: %d, error %d", call, post, came, f, sure, e)
			}
		}
		lies, e := trail.Lies(b)
		if len(walk)%2 == 0 {
			stayed++
			if !slices.Contains(lies, len(walk)/2-1) {
				t.Errorf("%s: lies are %v, error %d", call, lies, e)
			}
		}
	}
	if on < 200 || stayed < 30 {
		t.Errorf("%d minutes on a stretch, %d who stayed: too few", on, stayed)
	}
}

// truePlace compares what Where and Out tell of a minute with where the traveller truly was; it returns 1 if that was on a stretch.
func truePlace(t *testing.T, b api.TrailBook, walk []int, minute int) int {
	t.Helper()
	on := 0
	stretches, posts, e := trail.Where(b, minute)
	for n := range len(b.Stretches) + 1 {
		if isAt(walk, n, minute) && !slices.Contains(posts, n) || isOn(walk, n, minute) && !slices.Contains(stretches, n) {
			t.Errorf("%v, %v: Where at %d: %v, %v, error %d", b, walk, minute, stretches, posts, e)
		}
		if isOn(walk, n, minute) {
			on = 1
			long, e := trail.Out(b, n, minute)
			if e != api.OK || !inside(at(minute-walk[2*n+1]), long) {
				t.Errorf("%v, %v: Out of %d at %d: %v, error %d", b, walk, n, minute, long, e)
			}
		}
	}
	return on
}

// P4.10: one more sighting, right or wrong, adds no stretch and no post, and no other minutes.
func TestOneSightMore(t *testing.T) {
	r := rand.New(rand.NewSource(6))
	fewer, none := 0, 0
	for range 150 {
		b := wideTrail(r, 120)
		walk := lived(r, b)
		for range r.Intn(6) {
			b.Sights = append(b.Sights, rightSight(r, b, walk, 40))
		}
		next := more(b, anySight(r, b, walk, 30))
		if !isTrue(t, next) {
			none++
		}
		for range 5 {
			minute := max(0, min(4000, walk[r.Intn(len(walk))]+r.Intn(41)-20))
			one, two, _ := trail.Where(b, minute)
			stretches, posts, _ := trail.Where(next, minute)
			if !isSubset(stretches, one) || !isSubset(posts, two) {
				t.Errorf("%v: Where at %d: %v, %v; with one sight more %v, %v", next, minute, one, two, stretches, posts)
			}
			fewer += len(one) + len(two) - len(stretches) - len(posts)
		}
		lies, _ := trail.Lies(b)
		now, _ := trail.Lies(next)
		if !isSubset(now, lies) {
			t.Errorf("%v: lies are %v; with one sight more %v", next, lies, now)
		}
		for post := range len(b.Stretches) + 1 {
			came, _ := trail.Comes(b, post)
			if s, e := trail.Comes(next, post); e == api.OK && !inside(s, came) {
				t.Errorf("%v: the post %d is reached in %v; with one sight more in %v", next, post, came, s)
			}
		}
	}
	if fewer < 100 || none < 10 {
		t.Errorf("%d stretches and posts fewer, %d trails without a truth: too few", fewer, none)
	}
}

// P4.11: a further sight, or several, that say just what is returned leave a truth.
func TestWhatIsReturnedIsSo(t *testing.T) {
	r := rand.New(rand.NewSource(7))
	places := 0
	for range 150 {
		b := wideTrail(r, 120)
		walk := lived(r, b)
		for range r.Intn(4) {
			b.Sights = append(b.Sights, rightSight(r, b, walk, 40))
		}
		minute := max(1, min(3999, walk[r.Intn(len(walk))]+r.Intn(41)-20))
		stretches, posts, e := trail.Where(b, minute)
		for _, n := range posts {
			places++
			if !isTrue(t, more(b, seen(n, minute, minute))) {
				t.Errorf("%v: Where at %d: %v, error %d, but not %d", b, minute, posts, e, n)
			}
		}
		for _, n := range stretches {
			places++
			wantWhere(t, fmt.Sprint(b), more(b, seen(n, 0, minute-1), away(n, minute, 4000), away(n+1, 0, minute)), minute, []int{n}, nil, api.OK)
		}
		lies, e := trail.Lies(b)
		for _, n := range lies {
			if !isTrue(t, more(b, away(n+1, 0, 4000))) {
				t.Errorf("%v: lies are %v, error %d, but not %d", b, lies, e, n)
			}
		}
		saidOfPosts(t, b)
	}
	if places < 200 {
		t.Errorf("%d stretches and posts: too few", places)
	}
}

// saidOfPosts says of each post in which minute it is reached at first, and at last.
func saidOfPosts(t *testing.T, b api.TrailBook) {
	t.Helper()
	for post := range len(b.Stretches) + 1 {
		came, e := trail.Comes(b, post)
		if e != api.OK || came.High > 4000 {
			continue
		}
		first, e := trail.Comes(more(b, seen(post, 0, came.Low)), post)
		want(t, fmt.Sprintf("%v: the first of %d", b, post), first, e, at(came.Low), api.OK)
		if came.High == 0 {
			continue
		}
		last, e := trail.Comes(more(b, away(post, 0, came.High-1), seen(post, came.High, came.High)), post)
		want(t, fmt.Sprintf("%v: the last of %d", b, post), last, e, at(came.High), api.OK)
	}
}

// P4.12: without the sights that are told there is a truth, without fewer there is none.
func TestSightsThatMustBeWrong(t *testing.T) {
	r := rand.New(rand.NewSource(8))
	longest := 0
	for range 150 {
		b := wideTrail(r, 60)
		walk := lived(r, b)
		for range 1 + r.Intn(6) {
			b.Sights = append(b.Sights, anySight(r, b, walk, 40))
		}
		wrong, e := trail.Wrong(b)
		if e != api.OK || !slices.IsSorted(wrong) || len(slices.Compact(slices.Clone(wrong))) != len(wrong) {
			t.Errorf("%v: Wrong: %v, error %d", b, wrong, e)
		}
		longest = max(longest, len(wrong))
		for _, out := range subsets(len(b.Sights)) {
			can := isTrue(t, with(b, without(b.Sights, out)...))
			isIt := slices.Equal(out, wrong)
			if isIt && !can || !isIt && can && len(out) == len(wrong) && slices.Compare(out, wrong) < 0 {
				t.Errorf("%v: %v are told, but without %v: %v", b, wrong, out, can)
			}
			if can && len(out) < len(wrong) {
				t.Errorf("%v: %v are told, but %v are fewer", b, wrong, out)
			}
		}
	}
	if longest < 3 {
		t.Errorf("no more than %d sights were wrong in any trail", longest)
	}
}

// wider is a trail of which more is possible.
func wider(r *rand.Rand, b api.TrailBook) api.TrailBook {
	widen := func(s *api.Span, low, high int) {
		*s = to(max(low, s.Low-r.Intn(9)), min(high, s.High+r.Intn(9)))
	}
	b.Stretches = slices.Clone(b.Stretches)
	widen(&b.Start, 0, 1439)
	for i := range b.Stretches {
		widen(&b.Stretches[i].Walk, 1, 240)
		widen(&b.Stretches[i].Rest, 0, 120)
	}
	return b
}

// P4.13: with a wider Start, Walk or Rest no truth is lost; who surely came to a post surely came to all before it.
func TestWiderTrails(t *testing.T) {
	r := rand.New(rand.NewSource(9))
	gained, surely := 0, 0
	for range 300 {
		b := wideTrail(r, 60)
		walk := lived(r, b)
		for range r.Intn(5) {
			b.Sights = append(b.Sights, rightSight(r, b, walk, 40))
		}
		wide := wider(r, b)
		is, e := trail.IsTruth(wide, walk)
		want(t, fmt.Sprintf("%v: IsTruth %v", wide, walk), is, e, true, api.OK)
		minute := max(0, min(4000, walk[r.Intn(len(walk))]+r.Intn(41)-20))
		one, two, _ := trail.Where(b, minute)
		stretches, posts, _ := trail.Where(wide, minute)
		if !isSubset(one, stretches) || !isSubset(two, posts) {
			t.Errorf("%v: Where at %d: %v, %v; if wider %v, %v", b, minute, one, two, stretches, posts)
		}
		gained += len(stretches) + len(posts) - len(one) - len(two)
		before := 2
		for post := range len(b.Stretches) + 1 {
			sure, e := trail.Surely(b, post)
			wideSure, f := trail.Surely(wide, post)
			if e != api.OK || f != api.OK || sure > before || wideSure == 2 && sure < 2 || sure > 0 && wideSure == 0 {
				t.Errorf("%v: Surely of %d: %d, of the one before %d; if wider %d", b, post, sure, before, wideSure)
			}
			before = sure
			if post > 0 && sure == 2 {
				surely++
			}
		}
	}
	if gained < 30 || surely < 100 {
		t.Errorf("%d stretches and posts more, %d that are sure: too few", gained, surely)
	}
}

// worst returns how many stretches are left at the worst if a post is asked.
func worst(b api.TrailBook, post int, minutes api.Span, minute int) int {
	most := 0
	for _, is := range []bool{true, false} {
		left, _, _ := trail.Where(more(b, api.TrailSight{Post: post, Minutes: minutes, Seen: is}), minute)
		most = max(most, len(left))
	}
	return most
}

// P4.14: the post that is asked leaves no more stretches at the worst than any other one, and fewer than those before it.
func TestAskedPosts(t *testing.T) {
	r := rand.New(rand.NewSource(10))
	asked := map[int]int{}
	for range 150 {
		b := wideTrail(r, 120)
		walk := lived(r, b)
		for range r.Intn(4) {
			b.Sights = append(b.Sights, rightSight(r, b, walk, 40))
		}
		minute := max(0, min(4000, walk[r.Intn(len(walk))]+r.Intn(41)-10))
		minutes := someSpan(r, 0, 4000, 4000)
		post, e := trail.Ask(b, minutes, minute)
		if e != api.OK {
			t.Errorf("%v: Ask: error %d", b, e)
		}
		asked[post]++
		best := worst(b, post, minutes, minute)
		for n := range len(b.Stretches) + 1 {
			if left := worst(b, n, minutes, minute); left < best || n < post && left == best {
				t.Errorf("%v: Ask of %v at %d: %d, with %d left; of %d: %d", b, minutes, minute, post, best, n, left)
			}
		}
	}
	if len(asked) < 4 {
		t.Errorf("only these posts were asked: %v", asked)
	}
}

// P4.8, R4: arguments are not changed, not even behind their ends.
func TestArgumentsAreRead(t *testing.T) {
	r := rand.New(rand.NewSource(11))
	for range 100 {
		b := smallTrail(r)
		b.Sights = someSights(r, b, 6, 4)
		sights := append(slices.Clone(b.Sights), seen(0, 1, 2), away(1, 3, 4))
		stretches := append(slices.Clone(b.Stretches), exact(0, 1, 2).Stretches...)
		for i, x := range stretches {
			stretches[i].Shut = append(slices.Clone(x.Shut), to(1, 2))[:len(x.Shut)]
		}
		b.Sights, b.Stretches = sights[:len(b.Sights)], stretches[:len(b.Stretches)]
		before := fmt.Sprint(sights, stretches)
		for _, x := range stretches {
			before += fmt.Sprint(x.Shut[:len(x.Shut)+1])
		}
		walk := lived(r, b)
		kept := slices.Clone(walk)
		askAll(b)
		trail.IsWalk(b, walk)
		trail.IsTruth(b, walk)
		after := fmt.Sprint(sights, stretches)
		for _, x := range stretches {
			after += fmt.Sprint(x.Shut[:len(x.Shut)+1])
		}
		if before != after || !slices.Equal(walk, kept) {
			t.Fatalf("%v: an argument was changed", b)
		}
	}
}

// P4.8, R4: results are new memory, and nothing of an argument is kept.
func TestResultsAreNew(t *testing.T) {
	b, not := free(), falseBook()
	lies, _ := trail.Lies(b)
	wrong, _ := trail.Wrong(not)
	stretches, posts, _ := trail.Where(b, 600)
	if len(lies) != 3 || len(wrong) != 1 || len(stretches) != 3 || len(posts) != 3 {
		t.Fatalf("%v, %v, %v, %v", lies, wrong, stretches, posts)
	}
	lies[0], wrong[0], stretches[0], posts[0] = 7, 9, 8, 6
	b.Stretches[0], not.Sights[0] = api.TrailStretch{}, away(0, 0, 0)
	again, e := trail.Lies(free())
	wantList(t, "Lies", again, e, []int{0, 1, 2}, api.OK)
	wrongAgain, e := trail.Wrong(falseBook())
	wantList(t, "Wrong", wrongAgain, e, []int{0}, api.OK)
	wantWhere(t, "again", free(), 600, []int{0, 1, 2}, []int{1, 2, 3}, api.OK)
	if !slices.Equal(lies, []int{7, 1, 2}) || wrong[0] != 9 || !slices.Equal(stretches, []int{8, 1, 2}) || !slices.Equal(posts, []int{6, 2, 3}) {
		t.Error("a result was changed by a later call, or by another result")
	}
}

// P2: the same arguments have the same result, whatever was asked before.
func TestSameAgain(t *testing.T) {
	r := rand.New(rand.NewSource(12))
	var books []api.TrailBook
	var told []string
	for range 60 {
		b := smallTrail(r)
		b.Sights = someSights(r, b, 7, 4)
		books, told = append(books, b), append(told, askAll(b))
	}
	for _, i := range r.Perm(len(books)) {
		if askAll(books[i]) != told[i] {
			t.Errorf("%v: another answer", books[i])
		}
	}
}
