package search_test

import (
	"fmt"
	"math/rand"
	"slices"
	"testing"

	"clavendier/api"
	"clavendier/search"
)

// isSubset reports whether all numbers of a list are in another one.
func isSubset(list, all []int) bool {
	return !slices.ContainsFunc(list, func(n int) bool { return !slices.Contains(all, n) })
}

// inside reports whether a span lies in another one.
func inside(one, other api.Span) bool { return other.Low <= one.Low && one.High <= other.High }

// canBe reports whether Why tells that a round can be.
func canBe(t *testing.T, b api.SearchBook, post, begin int) bool {
	t.Helper()
	why, e := search.Why(b, post, begin)
	if e != api.OK {
		t.Fatalf("%v: Why to %d at %d: error %d", b, post, begin, e)
	}
	return why == api.SearchFine
}

// found is what First or Last tells of some minutes: one of them, or that there is none.
func found(list []int, of func([]int) int) (int, api.Errno) {
	if len(list) == 0 {
		return 0, api.ErrNone
	}
	return of(list), api.OK
}

// askAll asks everything of a book.
func askAll(b api.SearchBook) string {
	wanted, e1 := search.Wanted(b)
	missed, e2 := search.Missed(b)
	reach, e3 := search.Reach(b)
	rounds, e4 := search.Search(b)
	text := fmt.Sprint(search.Check(b), wanted, e1, missed, e2, reach, e3, rounds, e4)
	for post := -1; post <= len(b.Stretches)+1; post++ {
		s, e1 := search.Round(b, post)
		why, e2 := search.Why(b, post, b.Now+10)
		first, e3 := search.First(b, post, b.Now+20)
		last, e4 := search.Last(b, post)
		text += fmt.Sprint("; ", s, e1, why, e2, first, e3, last, e4)
	}
	return text
}

// P7.1, P7.5: which stretches must be searched, and which of them cannot be, is as calculated plainly.
func TestWantedAsCalculatedPlainly(t *testing.T) {
	r := rand.New(rand.NewSource(1))
	wanted, missed := 0, 0
	for range 200 {
		b := missing(r, someBook(r, 40, 200))
		list, e := search.Wanted(b)
		must := naiveWanted(b)
		wantList(t, fmt.Sprintf("%v: Wanted", b), list, e, must, api.OK)
		wanted += len(must)
		list, e = search.Missed(b)
		must = naiveMissed(must, newPlain(b).reach())
		wantList(t, fmt.Sprintf("%v: Missed", b), list, e, must, api.OK)
		missed += len(must)
	}
	if wanted < 200 || missed < 50 || wanted-missed < 50 {
		t.Errorf("%d stretches wanted, %d missed: too few of a kind", wanted, missed)
	}
}

// P7.2 to P7.4: how long rounds are, why they cannot be, and when and where they can, is as calculated plainly.
func TestRoundsAsCalculatedPlainly(t *testing.T) {
	r := rand.New(rand.NewSource(2))
	reasons, last, none := map[int]int{}, 0, 0
	for range 250 {
		b := someBook(r, 1+r.Intn(60), 300)
		x := newPlain(b)
		reach, e := search.Reach(b)
		want(t, fmt.Sprintf("%v: Reach", b), reach, e, x.reach(), api.OK)
		for _, post := range goals(b) {
			call := fmt.Sprintf("%v, to %d: ", b, post)
			s, e := search.Round(b, post)
			want(t, call+"Round", s, e, naiveRound(b, post), api.OK)
			begins := x.begins(post)
			must, code := found(begins, slices.Max[[]int])
			minute, e := search.Last(b, post)
			want(t, call+"Last", minute, e, must, code)
			if code == api.OK {
				last++
			}
			for range 4 {
				from := pick(r, to(b.Now, b.Dark))
				must, code := found(slices.DeleteFunc(slices.Clone(begins), func(n int) bool { return n < from }), slices.Min[[]int])
				minute, e := search.First(b, post, from)
				want(t, fmt.Sprint(call, "First from ", from), minute, e, must, code)
				if code != api.OK {
					none++
				}
				why, e := search.Why(b, post, from)
				want(t, fmt.Sprint(call, "Why at ", from), why, e, x.why(post, from), api.OK)
				reasons[why]++
			}
		}
	}
	if last < 150 || none < 150 || reasons[api.SearchFine] < 150 || reasons[api.SearchSlope] < 150 || reasons[api.SearchDark] < 150 {
		t.Errorf("%d rounds can be, %d cannot from a minute on; reasons %v: too few of a kind", last, none, reasons)
	}
}

// P7.6, P7.10: of all searches, whenever their rounds begin, none is better than the one that is told; there is none where none is told.
func TestShortestSearch(t *testing.T) {
	r := rand.New(rand.NewSource(3))
	kinds := map[string]int{}
	for i := range 1200 {
		b := someBook(r, 20, 150)
		if i%2 == 0 {
			b = gappyBook(r)
		}
		for range r.Intn(4) {
			b.Travellers = append(b.Travellers, lost(r.Intn(len(b.Stretches)), len(b.Stretches)))
		}
		b.Now, b.Dark, b.Live = max(10, b.Now), max(10, b.Dark), 4000
		must, ways, code := newPlain(b).naiveSearch(naiveWanted(b))
		list, e := search.Search(b)
		wantList(t, fmt.Sprintf("%v: Search", b), list, e, must, code)
		if code != api.OK {
			kinds["none"]++
			continue
		}
		kinds[fmt.Sprint(b.Parties, " for ", len(must))]++
		if ways > 1 {
			kinds[fmt.Sprint(b.Parties, ", several")]++
		}
		if len(must) == 2 && must[0].Post > must[1].Post {
			kinds["above first"]++
		}
		for _, x := range must {
			if nearer := sideGoals(b, naiveWanted(b), x.Post < b.House); x.Post < b.House && x.Post != slices.Max(nearer) || x.Post > b.House && x.Post != slices.Min(nearer) {
				kinds["farther"]++
			}
		}
	}
	for _, kind := range []string{"none", "1 for 0", "1 for 1", "1 for 2", "2 for 1", "2 for 2", "1, several", "above first", "farther"} {
		if kinds[kind] < 10 {
			t.Errorf("%s: %d searches are too few", kind, kinds[kind])
		}
	}
}

// P7.8: wherever a traveller truly is on a stretch, and alive by what can be, it must be searched; the search that is told walks over it.
func TestWhoCanLiveIsMet(t *testing.T) {
	r := rand.New(rand.NewSource(4))
	met, walkedOver := 0, 0
	for range 500 {
		b := someBook(r, 40, 900)
		var walks [][]int
		for range 1 + r.Intn(3) {
			trail, walk := seenTrail(r, len(b.Stretches), b.Now, 6)
			b.Travellers = append(b.Travellers, api.SearchTraveller{Trail: trail, Down: r.Intn(2) == 0})
			walks = append(walks, walk)
		}
		wanted, e := search.Wanted(b)
		rounds, code := search.Search(b)
		for i, walk := range walks {
			for n := range b.Stretches {
				if !isOn(walk, n, b.Now) || b.Now-walk[2*n+1] > b.Live {
					continue
				}
				met++
				on := n
				if b.Travellers[i].Down {
					on = len(b.Stretches) - 1 - n
				}
				if e != api.OK || !slices.Contains(wanted, on) {
					t.Errorf("%v: Wanted: %v, error %d, but the traveller %d walks %v", b, wanted, e, i, walk)
				}
				if code != api.OK {
					continue
				}
				walkedOver++
				if !slices.ContainsFunc(rounds, func(x api.SearchRound) bool {
					return min(x.Post, b.House) <= on && on < max(x.Post, b.House)
				}) {
					t.Errorf("%v: Search: %v, but the traveller %d is on %d", b, rounds, i, on)
				}
			}
		}
	}
	if met < 150 || walkedOver < 50 {
		t.Errorf("%d were met, %d stretches walked over: too few", met, walkedOver)
	}
}

// trueMinutes is the minutes in which a party truly was on stretches, out and back.
func trueMinutes(r *rand.Rand, b api.SearchBook, x api.SearchRound) []crossing {
	list := naiveCrossings(b, x.Post, x.Begin)
	minute := x.Begin
	for i, c := range list {
		took := pick(r, b.Stretches[c.stretch].March)
		if r.Intn(3) == 0 {
			took = b.Stretches[c.stretch].March.High
		}
		list[i].on = to(minute, minute+took)
		minute += took
	}
	return list
}

// isOver reports whether a party truly was back by dark, and no slope that it crossed let go, or could have, in one of the hours in which it was there.
func isOver(b api.SearchBook, fallen []snow, list []crossing) bool {
	if list[len(list)-1].on.High > b.Dark {
		return false
	}
	for _, c := range list {
		slope := b.Stretches[c.stretch].Slope
		for minute := c.on.Low; slope >= 0 && minute <= c.on.High; minute++ {
			hour := naiveHour(b, minute)
			if hour >= len(fallen[slope].loads) || fallen[slope].fell[hour] || fallen[slope].loads[hour] > b.Slopes[slope].Slope.Hold {
				return false
			}
		}
	}
	return true
}

// toldRounds lists all rounds that functions tell of a book.
func toldRounds(r *rand.Rand, b api.SearchBook) []api.SearchRound {
	list, _ := search.Search(b)
	for _, post := range goals(b) {
		if begin, e := search.First(b, post, pick(r, to(b.Now, b.Dark))); e == api.OK {
			list = append(list, round(post, begin))
		}
		if begin, e := search.Last(b, post); e == api.OK {
			list = append(list, round(post, begin))
		}
	}
	return list
}

// P7.9: whatever each stretch truly takes, and whatever snow there truly was, each round that is told is back by dark, and on no slope that lets go.
func TestBackByDark(t *testing.T) {
	r := rand.New(rand.NewSource(5))
	over, crossed, danger := 0, 0, 0
	for range 300 {
		b := someBook(r, 40, 500)
		var snows []snow
		for i := range b.Slopes {
			slope, x := seenSlope(r)
			b.Slopes[i] = slope
			snows = append(snows, x)
			for hour := range x.loads {
				if x.loads[hour] > slope.Slope.Hold {
					danger++
				}
			}
		}
		for range r.Intn(4) {
			b.Travellers = append(b.Travellers, lost(r.Intn(len(b.Stretches)), len(b.Stretches)))
		}
		b.Now, b.Dark, b.Live = max(10, b.Now), max(10, b.Dark), 4000
		for _, x := range toldRounds(r, b) {
			for range 3 {
				list := trueMinutes(r, b, x)
				over++
				if slices.ContainsFunc(list, func(c crossing) bool { return b.Stretches[c.stretch].Slope >= 0 }) {
					crossed++
				}
				if !isOver(b, snows, list) {
					t.Errorf("%v: %v is told, but truly was %v, with %v", b, x, list, snows)
				}
			}
		}
	}
	if over < 1500 || crossed < 300 || danger < 300 {
		t.Errorf("%d rounds, %d over slopes, %d hours with danger: too few", over, crossed, danger)
	}
}

// P7.6, P7.9: one party sets out for the second round when it truly is back from the first one.
func TestOnePartyIsBackBefore(t *testing.T) {
	r := rand.New(rand.NewSource(6))
	two := 0
	for range 400 {
		b := someBook(r, 25, 400)
		b.Parties = 1
		for range 3 {
			b.Travellers = append(b.Travellers, lost(r.Intn(len(b.Stretches)), len(b.Stretches)))
		}
		b.Now, b.Dark, b.Live = max(10, b.Now), max(10, b.Dark), 4000
		list, e := search.Search(b)
		if e != api.OK || len(list) < 2 {
			continue
		}
		two++
		first := trueMinutes(r, b, list[0])
		if back := first[len(first)-1].on.High; list[1].Begin < back {
			t.Errorf("%v: Search: %v, but the party is back at %d", b, list, back)
		}
	}
	if two < 40 {
		t.Errorf("%d searches of two rounds: too few", two)
	}
}

// noLess tests that a round that could be in a book still can be in another one, and that no less is told of it.
func noLess(t *testing.T, what string, b, next api.SearchBook) (rounds, more int) {
	t.Helper()
	const step = 11
	for _, post := range goals(b) {
		for begin := b.Now; begin <= b.Dark; begin += step {
			is, will := canBe(t, b, post, begin), canBe(t, next, post, begin)
			if is && !will {
				t.Errorf("%s: %v: the round to %d at %d could be; not in %v", what, b, post, begin, next)
			}
			if is {
				rounds++
			} else if will {
				more++
			}
		}
		last, e := search.Last(b, post)
		if then, f := search.Last(next, post); e == api.OK && (f != api.OK || then < last) {
			t.Errorf("%s: %v: the last round to %d is at %d; then at %d", what, b, post, last, then)
		}
		first, e := search.First(b, post, b.Now)
		if then, f := search.First(next, post, b.Now); e == api.OK && (f != api.OK || then > first) {
			t.Errorf("%s: %v: the first round to %d is at %d; then at %d", what, b, post, first, then)
		}
	}
	reach, _ := search.Reach(b)
	if then, e := search.Reach(next); e != api.OK || !inside(reach, then) {
		t.Errorf("%s: %v: Reach is %v; then %v", what, b, reach, then)
	}
	return rounds, more
}

// P7.11: with a later dark, a march that at most takes less, or a slope less, a round that could be still can be.
func TestEasierRounds(t *testing.T) {
	r := rand.New(rand.NewSource(7))
	rounds, more := map[string]int{}, map[string]int{}
	for range 80 {
		b := someBook(r, 1+r.Intn(20), 150)
		for i := range b.Stretches {
			b.Stretches[i].March.High += r.Intn(20)
		}
		later, faster, less := b, b, b
		later.Dark = min(1439, b.Dark+1+r.Intn(60))
		faster.Stretches, less.Stretches = slices.Clone(b.Stretches), slices.Clone(b.Stretches)
		for i, s := range b.Stretches {
			faster.Stretches[i].March.High = pick(r, s.March)
			if r.Intn(2) == 0 {
				less.Stretches[i].Slope = -1
			}
		}
		for what, next := range map[string]api.SearchBook{"a later dark": later, "a faster march": faster, "a slope less": less} {
			n, m := noLess(t, what, b, next)
			rounds[what] += n
			more[what] += m
		}
	}
	for _, what := range []string{"a later dark", "a faster march", "a slope less"} {
		if rounds[what] < 300 || more[what] < 30 {
			t.Errorf("%s: %d rounds could be, %d more can: too few", what, rounds[what], more[what])
		}
	}
}

// P7.11: the same with a march that takes less at least, too, where no slope is crossed that is safe in some hours alone.
func TestFasterMarches(t *testing.T) {
	r := rand.New(rand.NewSource(8))
	rounds, more := 0, 0
	for range 60 {
		b := someBook(r, 1+r.Intn(40), 120)
		for i := range b.Slopes {
			b.Slopes[i] = pattern(slices.Repeat([]bool{i == 0}, 12)...)
		}
		faster := b
		faster.Stretches = slices.Clone(b.Stretches)
		for i, s := range b.Stretches {
			low := pick(r, to(1, s.March.Low))
			faster.Stretches[i].March = to(low, pick(r, to(low, s.March.High)))
		}
		n, m := noLess(t, "a faster march", b, faster)
		rounds, more = rounds+n, more+m
	}
	if rounds < 300 || more < 30 {
		t.Errorf("%d rounds could be, %d more can: too few", rounds, more)
	}
}

// P7.11: with more that is seen of travellers no more stretches must be searched.
func TestMoreSeenOfTravellers(t *testing.T) {
	r := rand.New(rand.NewSource(9))
	fewer := 0
	for range 600 {
		b := someBook(r, 20, 200)
		b.Live = 4000
		trail, walk := seenTrail(r, len(b.Stretches), b.Now, 4)
		b.Travellers = []api.SearchTraveller{{Trail: trail, Down: r.Intn(2) == 0}}
		b = missing(r, b)
		before, e := search.Wanted(b)
		next := b
		next.Travellers = slices.Clone(b.Travellers)
		next.Travellers[0].Trail.Sights = slices.Concat(trail.Sights, []api.TrailSight{rightSight(r, trail, walk), rightSight(r, trail, walk)})
		then, f := search.Wanted(next)
		if e != api.OK || f != api.OK || !isSubset(then, before) {
			t.Errorf("%v: Wanted: %v, error %d; with one sight more %v, error %d", next, before, e, then, f)
		}
		fewer += len(before) - len(then)
	}
	if fewer < 40 {
		t.Errorf("%d stretches fewer: too few", fewer)
	}
}

// P7.12: a round to a farther post takes longer, at least and at most.
func TestFartherTakesLonger(t *testing.T) {
	r := rand.New(rand.NewSource(10))
	for range 100 {
		b := someBook(r, 1+r.Intn(240), 200)
		for _, way := range []int{-1, 1} {
			before := at(0)
			for post := b.House + way; post >= 0 && post <= len(b.Stretches); post += way {
				s, e := search.Round(b, post)
				if e != api.OK || s.Low <= before.Low || s.High <= before.High {
					t.Errorf("%v: Round to %d: %v, error %d; to the one before %v", b, post, s, e, before)
				}
				before = s
			}
		}
	}
}

// P7.12: a round that can begin in a minute is told to begin no later, if it is asked for from this minute on; and no sooner than it is asked for.
func TestToldNoLater(t *testing.T) {
	r := rand.New(rand.NewSource(11))
	can, cannot := 0, 0
	for range 40 {
		b := someBook(r, 1+r.Intn(30), 300)
		for _, post := range goals(b) {
			for minute := b.Now; minute <= b.Dark; minute += 1 + r.Intn(9) {
				first, e := search.First(b, post, minute)
				if canBe(t, b, post, minute) {
					can++
					want(t, fmt.Sprintf("%v: First to %d from %d", b, post, minute), first, e, minute, api.OK)
				} else if e == api.OK {
					cannot++
					if first <= minute || !canBe(t, b, post, first) {
						t.Errorf("%v: First to %d from %d: %d", b, post, minute, first)
					}
				}
			}
		}
	}
	if can < 500 || cannot < 50 {
		t.Errorf("%d rounds can begin, %d later alone: too few", can, cannot)
	}
}

// copied is a book whose lists are cut from longer ones, and all that these contain.
func copied(b api.SearchBook) (api.SearchBook, func() string) {
	stretches := append(slices.Clone(b.Stretches), flat(1, 2), steep(3, 4, 5))
	slopes := append(slices.Clone(b.Slopes), loaded())
	travellers := append(slices.Clone(b.Travellers), lost(0, 1))
	for i, s := range slopes {
		s.Hours = append(slices.Clone(s.Hours), api.SlopeHour{New: at(7)})
		s.Sights = append(slices.Clone(s.Sights), api.SlopeSight{Hour: 7})
		slopes[i].Hours, slopes[i].Sights = s.Hours[:len(s.Hours)-1], s.Sights[:len(s.Sights)-1]
	}
	for i, x := range travellers {
		x.Trail.Stretches = append(slices.Clone(x.Trail.Stretches), api.TrailStretch{Walk: at(7)})
		x.Trail.Sights = append(slices.Clone(x.Trail.Sights), seen(7, 7, 7))
		travellers[i].Trail.Stretches = x.Trail.Stretches[:len(x.Trail.Stretches)-1]
		travellers[i].Trail.Sights = x.Trail.Sights[:len(x.Trail.Sights)-1]
	}
	text := func() string {
		all := fmt.Sprint(stretches, slopes, travellers)
		for _, s := range slopes {
			all += fmt.Sprint(s.Hours[:len(s.Hours)+1], s.Sights[:len(s.Sights)+1])
		}
		for _, x := range travellers {
			all += fmt.Sprint(x.Trail.Stretches[:len(x.Trail.Stretches)+1], x.Trail.Sights[:len(x.Trail.Sights)+1])
		}
		return all
	}
	b.Stretches, b.Slopes, b.Travellers = stretches[:len(b.Stretches)], slopes[:len(b.Slopes)], travellers[:len(b.Travellers)]
	return b, text
}

// P7.7, R4: arguments are not changed, not even behind their ends.
func TestArgumentsAreRead(t *testing.T) {
	r := rand.New(rand.NewSource(12))
	for range 60 {
		b, text := copied(missing(r, someBook(r, 20, 200)))
		before := text()
		askAll(b)
		if after := text(); before != after {
			t.Fatalf("%v: an argument was changed: %s; before %s", b, after, before)
		}
	}
}

// P7.7, R4: results are new memory, and nothing of an argument is kept.
func TestResultsAreNew(t *testing.T) {
	b := book(dark(620))
	wanted, _ := search.Wanted(b)
	missed, _ := search.Missed(b)
	list, _ := search.Search(book())
	if len(wanted) != 2 || len(missed) != 2 || len(list) != 2 {
		t.Fatalf("%v, %v, %v", wanted, missed, list)
	}
	wanted[0], missed[0], list[0] = 7, 8, round(9, 9)
	b.Stretches[0], b.Slopes[0].Hours[0], b.Travellers[0].Trail.Sights[0] = flat(200, 200), api.SlopeHour{New: at(9)}, seen(0, 1, 2)
	again, e := search.Wanted(book(dark(620)))
	wantList(t, "Wanted", again, e, []int{1, 2}, api.OK)
	again, e = search.Missed(book(dark(620)))
	wantList(t, "Missed", again, e, []int{1, 2}, api.OK)
	wantSearch(t, "again", book(), rounds(round(1, 600), round(3, 658)), api.OK)
	if !slices.Equal(wanted, []int{7, 2}) || !slices.Equal(missed, []int{8, 2}) || list[0] != round(9, 9) {
		t.Error("a result was changed by a later call, or by another result")
	}
}

// R3: between a nil list and an empty one there is no difference.
func TestNilAndEmpty(t *testing.T) {
	r := rand.New(rand.NewSource(13))
	for range 30 {
		b := someBook(r, 20, 200)
		b.Slopes = nil
		for i := range b.Stretches {
			b.Stretches[i].Slope = -1
		}
		empty := b
		empty.Slopes, empty.Travellers = []api.SlopeBook{}, []api.SearchTraveller{}
		if one, other := askAll(b), askAll(empty); one != other {
			t.Errorf("%v: %s; with empty lists %s", b, one, other)
		}
	}
}

// P2: the same arguments have the same result, whatever was asked before.
func TestSameAgain(t *testing.T) {
	r := rand.New(rand.NewSource(14))
	var books []api.SearchBook
	var told []string
	for range 60 {
		b := missing(r, someBook(r, 20, 250))
		if r.Intn(8) == 0 {
			b.Parties = 3
		}
		books, told = append(books, b), append(told, askAll(b))
	}
	for _, i := range r.Perm(len(books)) {
		if askAll(books[i]) != told[i] {
			t.Errorf("%v: another answer", books[i])
		}
	}
}
