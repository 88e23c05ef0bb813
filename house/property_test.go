package house_test

import (
	"fmt"
	"math/rand"
	"slices"
	"testing"

	"clavendier/api"
	"clavendier/house"
	"clavendier/name"
)

// isSubset reports whether all pairs of a list are in another one.
func isSubset(list, all []api.NamePair) bool {
	return !slices.ContainsFunc(list, func(p api.NamePair) bool { return !slices.Contains(all, p) })
}

// contains reports whether a number lies in a span.
func contains(s api.Span, n int) bool { return s.Low <= n && n <= s.High }

// P8.2 to P8.7, P8.10: all functions do as the plainest calculation does.
func TestAsCalculatedPlainly(t *testing.T) {
	r := rand.New(rand.NewSource(1))
	kinds := map[string]int{}
	for range 1500 {
		b := someBook(r, r.Intn(10))
		call := fmt.Sprintf("%v: ", b)
		truths := naiveTruths(b)
		n, e := house.Truths(b)
		want(t, call+"Truths", n, e, len(truths), api.OK)
		wrong, e := house.Wrong(b)
		wantList(t, call+"Wrong", wrong, e, naiveWrong(b), api.OK)
		kinds[fmt.Sprint(len(wrong), " wrong")]++
		linesAsCalculatedPlainly(t, b)
		if len(truths) == 0 {
			noTruthAsCalculatedPlainly(t, b)
			continue
		}
		spansAsCalculatedPlainly(t, b, truths)
		twice, e := house.Twice(b)
		wantList(t, call+"Twice", twice, e, naiveTwice(truths), api.OK)
		kinds[fmt.Sprint(min(2, len(twice)), " twice")]++
		ask, code := naiveAsk(b, truths), api.OK
		if len(truths) == 1 {
			ask, code = 0, api.ErrNone
		}
		kinds[fmt.Sprint("error ", code)]++
		if ask > 0 {
			kinds["a later line"]++
		}
		best, e := house.Ask(b)
		want(t, call+"Ask", best, e, ask, code)
	}
	for _, kind := range []string{"0 wrong", "1 wrong", "2 wrong", "0 twice", "1 twice", "2 twice", "error 0", "error 4", "a later line"} {
		if kinds[kind] < 20 {
			t.Errorf("%s: %d of 1500 are too few: %v", kind, kinds[kind], kinds)
		}
	}
}

func linesAsCalculatedPlainly(t *testing.T, b api.HouseBook) {
	t.Helper()
	for one := range b.Lines {
		for other := range b.Lines {
			can, e := house.Can(b, one, other)
			want(t, fmt.Sprintf("%v: Can of %d %d", b, one, other), can, e, naiveCan(b, one, other), api.OK)
		}
	}
}

func noTruthAsCalculatedPlainly(t *testing.T, b api.HouseBook) {
	t.Helper()
	const code = api.ErrHouseNot
	call := fmt.Sprintf("%v: ", b)
	for night := range b.Bowls {
		got, e := house.Guests(b, night)
		want(t, call+"Guests", got, e, api.Span{}, code)
	}
	for town := range b.Towns {
		got, e := house.Heads(b, town)
		want(t, call+"Heads", got, e, api.Span{}, code)
	}
	total, e := house.Total(b)
	want(t, call+"Total", total, e, api.Span{}, code)
	twice, e := house.Twice(b)
	wantList(t, call+"Twice", twice, e, nil, code)
	beds, e := house.Beds(b)
	want(t, call+"Beds", beds, e, 0, code)
	best, e := house.Ask(b)
	want(t, call+"Ask", best, e, 0, code)
}

func spansAsCalculatedPlainly(t *testing.T, b api.HouseBook, truths [][]api.NamePair) {
	t.Helper()
	call := fmt.Sprintf("%v: ", b)
	for night := range b.Bowls {
		got, e := house.Guests(b, night)
		must := naiveSpan(truths, func(list []api.NamePair) int { return naiveGuests(b, list, night) })
		want(t, fmt.Sprint(call, "Guests of ", night), got, e, must, api.OK)
	}
	for town := range b.Towns {
		got, e := house.Heads(b, town)
		must := naiveSpan(truths, func(list []api.NamePair) int { return naiveHeads(b, list, town) })
		want(t, fmt.Sprint(call, "Heads of ", town), got, e, must, api.OK)
	}
	total, e := house.Total(b)
	want(t, call+"Total", total, e, naiveSpan(truths, func(list []api.NamePair) int { return len(b.Lines) - len(list) }), api.OK)
	beds, e := house.Beds(b)
	want(t, call+"Beds", beds, e, naiveSpan(truths, func(list []api.NamePair) int { return naiveBeds(b, list) }).High, api.OK)
}

// P8.2: just those lists are truths of which the chapter says so.
func TestIsTruthAsCalculatedPlainly(t *testing.T) {
	r := rand.New(rand.NewSource(2))
	yes, no := 0, 0
	for range 400 {
		b := someBook(r, r.Intn(8))
		truths := naiveTruths(b)
		for _, list := range truths {
			is, e := house.IsTruth(b, list)
			want(t, fmt.Sprintf("%v: IsTruth %v", b, list), is, e, true, api.OK)
		}
		for range 10 {
			var list []api.NamePair
			if len(truths) > 0 && r.Intn(4) > 0 {
				list = slices.Clone(truths[r.Intn(len(truths))])
			}
			for range r.Intn(3) {
				p := api.NamePair{One: r.Intn(len(b.Lines)+2) - 1, Other: r.Intn(len(b.Lines)+2) - 1}
				list = slices.Insert(list, r.Intn(len(list)+1), p)
			}
			if len(list) > 0 && r.Intn(4) == 0 {
				i := r.Intn(len(list))
				list = slices.Delete(list, i, i+1)
			}
			must := naiveIsTruth(b, list)
			if must {
				yes++
			} else {
				no++
			}
			is, e := house.IsTruth(b, list)
			want(t, fmt.Sprintf("%v: IsTruth %v", b, list), is, e, must, api.OK)
		}
	}
	if yes < 300 || no < 300 {
		t.Errorf("%d lists are truths, %d are none: too few of a kind", yes, no)
	}
}

// P8.9: whoever truly slept at the house, the true pairs are a truth, and what is returned is so.
func TestEachNightIsCountedOnce(t *testing.T) {
	r := rand.New(rand.NewSource(3))
	met, sure, misheard := 0, 0, 0
	for range 2000 {
		b, truly := sleptHere(r)
		call := fmt.Sprintf("%v, truly %v: ", b, truly)
		met += len(truly)
		for _, p := range truly {
			if b.Lines[p.One].Heard != b.Lines[p.Other].Heard {
				misheard++
			}
		}
		is, e := house.IsTruth(b, truly)
		want(t, call+"IsTruth", is, e, true, api.OK)
		wrong, e := house.Wrong(b)
		wantList(t, call+"Wrong", wrong, e, nil, api.OK)
		for night := range b.Bowls {
			if s, e := house.Guests(b, night); e != api.OK || !contains(s, naiveGuests(b, truly, night)) {
				t.Errorf("%sGuests of %d: %v, error %d", call, night, s, e)
			}
		}
		for town := range b.Towns {
			if s, e := house.Heads(b, town); e != api.OK || !contains(s, naiveHeads(b, truly, town)) {
				t.Errorf("%sHeads of %d: %v, error %d", call, town, s, e)
			}
		}
		if s, e := house.Total(b); e != api.OK || !contains(s, len(b.Lines)-len(truly)) {
			t.Errorf("%sTotal: %v, error %d", call, s, e)
		}
		if n, e := house.Beds(b); e != api.OK || n < naiveBeds(b, truly) {
			t.Errorf("%sBeds: %d, error %d", call, n, e)
		}
		twice, e := house.Twice(b)
		if e != api.OK || !isSubset(twice, truly) {
			t.Errorf("%sTwice: %v, error %d", call, twice, e)
		}
		sure += len(twice)
	}
	if met < 1000 || sure < 300 || misheard < 100 {
		t.Errorf("%d true pairs, %d of them misheard, %d surely joined: too few of a kind", met, misheard, sure)
	}
}

// P8.10: all nights are the nights of all towns, and the guests of all nights, in each truth; each end is so in a truth.
func TestEndsAreTrue(t *testing.T) {
	r := rand.New(rand.NewSource(4))
	apart := 0
	for range 600 {
		b, _ := sleptHere(r)
		if len(b.Lines) > 8 {
			continue
		}
		call := fmt.Sprintf("%v: ", b)
		truths := naiveTruths(b)
		total, _ := house.Total(b)
		guests, heads, ends := api.Span{}, api.Span{}, map[int]bool{}
		for night := range b.Bowls {
			s, _ := house.Guests(b, night)
			guests = to(guests.Low+s.Low, guests.High+s.High)
			endsAreSo(t, fmt.Sprint(call, "Guests of ", night), s, truths, func(list []api.NamePair) int { return naiveGuests(b, list, night) })
		}
		for town := range b.Towns {
			s, _ := house.Heads(b, town)
			heads = to(heads.Low+s.Low, heads.High+s.High)
			endsAreSo(t, fmt.Sprint(call, "Heads of ", town), s, truths, func(list []api.NamePair) int { return naiveHeads(b, list, town) })
		}
		for _, list := range truths {
			all, ofTowns := len(b.Lines)-len(list), 0
			for town := range b.Towns {
				ofTowns += naiveHeads(b, list, town)
			}
			if ofTowns != all {
				t.Errorf("%sin %v there are %d nights, but %d of all towns", call, list, all, ofTowns)
			}
			ends[all] = true
		}
		if guests != total || !ends[total.Low] || !ends[total.High] {
			t.Errorf("%sTotal: %v, but the guests of all nights are %v", call, total, guests)
		}
		if heads.Low > total.Low || heads.High < total.High || len(truths) == 1 && heads != total {
			t.Errorf("%sTotal: %v, but the nights of all towns are %v", call, total, heads)
		}
		if total.Low < total.High {
			apart++
		}
	}
	if apart < 100 {
		t.Errorf("%d houses with ends apart: too few", apart)
	}
}

// endsAreSo tests that each end of a span is what is counted in a truth.
func endsAreSo(t *testing.T, call string, s api.Span, truths [][]api.NamePair, count func(pairs []api.NamePair) int) {
	t.Helper()
	var low, high bool
	for _, list := range truths {
		low, high = low || count(list) == s.Low, high || count(list) == s.High
	}
	if !low || !high {
		t.Errorf("%s: in no truth are both ends of %v", call, s)
	}
}

// rest is a house of which something was left out, and which numbers its nights and its lines had before.
type rest struct {
	b             api.HouseBook
	nights, lines []int
}

// withoutNight is a house without a night, its lines and its bowls.
func withoutNight(b api.HouseBook, night int) rest {
	next := withoutLines(b, night)
	next.b.Bowls = slices.Delete(next.b.Bowls, night, night+1)
	next.nights = slices.Delete(next.nights, night, night+1)
	for i, l := range next.b.Lines {
		next.b.Lines[i].Night = slices.Index(next.nights, l.Night)
	}
	return next
}

// withoutLines is a house without the lines of a night, of which no bowls are known then.
func withoutLines(b api.HouseBook, night int) rest {
	next := rest{b: b}
	next.b.Lines, next.b.Bowls = nil, slices.Clone(b.Bowls)
	next.b.Bowls[night] = to(0, 99)
	for n := range b.Bowls {
		next.nights = append(next.nights, n)
	}
	for i, l := range b.Lines {
		if l.Night != night {
			next.b.Lines, next.lines = append(next.b.Lines, l), append(next.lines, i)
		}
	}
	return next
}

// sameOfNights tests that the same is returned of all nights but the one that was left out.
func sameOfNights(t *testing.T, b api.HouseBook, next rest, night int) {
	t.Helper()
	call := fmt.Sprintf("%v without the night %d, %v: ", b, night, next.b)
	for n, had := range next.nights {
		if had != night {
			before, e := house.Guests(b, had)
			got, f := house.Guests(next.b, n)
			want(t, fmt.Sprint(call, "Guests of ", n), got, f, before, e)
		}
	}
	before, e := house.Twice(b)
	before = slices.DeleteFunc(before, func(p api.NamePair) bool { return b.Lines[p.One].Night == night })
	got, f := house.Twice(next.b)
	for i, p := range got {
		got[i] = api.NamePair{One: next.lines[p.One], Other: next.lines[p.Other]}
	}
	wantList(t, call+"Twice", got, f, before, e)
	for one, hadOne := range next.lines {
		for other, hadOther := range next.lines {
			before, e := house.Can(b, hadOne, hadOther)
			got, f := house.Can(next.b, one, other)
			want(t, fmt.Sprint(call, "Can of ", one, other), got, f, before, e)
		}
	}
}

// P8.11: without the lines of another night the same is returned of each night that is left; but for Can and Wrong, if there is a truth.
func TestNightsSayNothingOfEachOther(t *testing.T) {
	r := rand.New(rand.NewSource(5))
	compared, wrongs := 0, 0
	for range 400 {
		b := someBook(r, r.Intn(11))
		wrong, _ := house.Wrong(b)
		for night := range b.Bowls {
			for _, next := range []rest{withoutLines(b, night), withoutNight(b, night)} {
				if len(next.b.Bowls) == 0 {
					continue
				}
				now, e := house.Wrong(next.b)
				for i, n := range now {
					now[i] = next.nights[n]
				}
				must := slices.DeleteFunc(slices.Clone(wrong), func(n int) bool { return n == night })
				wrongs += len(must)
				wantList(t, fmt.Sprintf("%v: Wrong without the night %d", b, night), now, e, must, api.OK)
				if len(wrong) == 0 {
					compared++
					sameOfNights(t, b, next, night)
				}
			}
		}
	}
	if compared < 400 || wrongs < 100 {
		t.Errorf("%d nights left out where there is a truth, %d nights that are wrong and left: too few", compared, wrongs)
	}
}

// P8.12: with the wrong nights counted in some other way there is a truth; with one of them left as it is there is none.
func TestWrongNights(t *testing.T) {
	r := rand.New(rand.NewSource(6))
	wrongs := 0
	for range 800 {
		b := someBook(r, r.Intn(10))
		wrong, e := house.Wrong(b)
		if e != api.OK {
			t.Fatalf("%v: error %d", b, e)
		}
		right := b
		right.Bowls = slices.Clone(b.Bowls)
		for _, night := range wrong {
			many := countIf(b, func(l api.HouseLine) bool { return l.Night == night })
			right.Bowls[night] = at(many) // so many are fit by no pairs at all
		}
		if n, e := house.Truths(right); n == 0 || e != api.OK {
			t.Errorf("%v: Wrong: %v, but without these there are %d truths, error %d", b, wrong, n, e)
		}
		for _, night := range wrong {
			wrongs++
			next := right
			next.Bowls = slices.Clone(right.Bowls)
			next.Bowls[night] = b.Bowls[night]
			if n, e := house.Truths(next); n != 0 || e != api.OK {
				t.Errorf("%v: Wrong: %v, but with the night %d there are %d truths, error %d", b, wrong, night, n, e)
			}
		}
	}
	if wrongs < 200 {
		t.Errorf("%d nights are wrong: too few", wrongs)
	}
}

// P8.13: with wider Bowls, or more Slips, no truth is lost, and no pair is joined that was not before.
func TestNoTruthIsLost(t *testing.T) {
	r := rand.New(rand.NewSource(7))
	compared, gained, torn := 0, 0, 0
	for range 1200 {
		b := someBook(r, r.Intn(10))
		low, high, slips := b, b, b
		night := r.Intn(len(b.Bowls))
		low.Bowls, high.Bowls = slices.Clone(b.Bowls), slices.Clone(b.Bowls)
		low.Bowls[night].Low = max(0, low.Bowls[night].Low-1)
		high.Bowls[night].High++
		slips.Ear.Slips = min(api.NameSlips, slips.Ear.Slips+1)
		truths := naiveTruths(b)
		twice, e := house.Twice(b)
		for _, more := range []api.HouseBook{low, high, slips} {
			for _, list := range truths {
				is, f := house.IsTruth(more, list)
				want(t, fmt.Sprintf("%v: IsTruth %v", more, list), is, f, true, api.OK)
			}
			n, f := house.Truths(more)
			if f != api.OK || n < len(truths) {
				t.Errorf("%v: %d truths; with more, %v: %d, error %d", b, len(truths), more, n, f)
			}
			gained += n - len(truths)
			if e != api.OK {
				continue
			}
			compared++
			now, f := house.Twice(more)
			if f != api.OK || !isSubset(now, twice) {
				t.Errorf("%v: Twice: %v; with more, %v: %v, error %d", b, twice, more, now, f)
			}
			torn += len(twice) - len(now)
		}
	}
	if compared < 500 || gained < 500 || torn < 50 {
		t.Errorf("%d compared, %d truths more, %d pairs fewer that are joined: too few", compared, gained, torn)
	}
}

// P8.13: as many beds as are returned are enough for the guests of each night, in each truth; one less is not.
func TestBeds(t *testing.T) {
	r := rand.New(rand.NewSource(8))
	asked := 0
	for range 600 {
		b := someBook(r, 1+r.Intn(8))
		beds, e := house.Beds(b)
		if e != api.OK {
			continue
		}
		asked++
		few := false
		for _, list := range naiveTruths(b) {
			for night := range b.Bowls {
				guests := naiveGuests(b, list, night)
				if guests > beds {
					t.Errorf("%v: Beds: %d, but in %v there are %d guests in the night %d", b, beds, list, guests, night)
				}
				few = few || guests > beds-1
			}
		}
		if !few {
			t.Errorf("%v: Beds: %d, but one less is enough", b, beds)
		}
	}
	if asked < 200 {
		t.Errorf("%d of 600 houses have a truth: too few", asked)
	}
}

// P8.7: whatever is answered, no more truths are left than at the worst about any other line.
func TestTheLineThatIsAskedFor(t *testing.T) {
	r := rand.New(rand.NewSource(9))
	asked := 0
	for range 400 {
		b := someBook(r, 4+r.Intn(5))
		best, e := house.Ask(b)
		if e != api.OK {
			continue
		}
		asked++
		truths := naiveTruths(b)
		for line := range b.Lines {
			if naiveWorst(b, truths, best) > naiveWorst(b, truths, line) {
				t.Errorf("%v: %d is asked for, but %d leaves fewer truths", b, best, line)
			}
		}
	}
	if asked < 100 {
		t.Errorf("%d of 400 houses have something to ask: too few", asked)
	}
}

// P8.1: names are heard just as the layer of names hears them.
func TestNamesAreHeard(t *testing.T) {
	r := rand.New(rand.NewSource(10))
	heard := map[bool]int{}
	for range 1000 {
		list := slices.Concat(spelled()...)
		one, other := list[r.Intn(len(list))], list[r.Intn(len(list))]
		b := with(spans(at(2)), line(0, 0, 0, one), line(1, 0, 0, other))
		b.Ear = someEar(r)
		_, e := name.Near(b.Ear, one, other)
		heard[e == api.OK]++
		can, f := house.Can(b, 0, 1)
		want(t, fmt.Sprintf("%v: Can", b), can, f, e == api.OK, api.OK)
	}
	if heard[true] < 100 || heard[false] < 100 {
		t.Errorf("%v: too few of a kind", heard)
	}
}

// P8.8, R4: arguments are not changed, not even behind their ends.
func TestArgumentsAreRead(t *testing.T) {
	r := rand.New(rand.NewSource(11))
	for range 200 {
		b := someBook(r, r.Intn(10))
		lines := append(slices.Clone(b.Lines), line(0, 0, 0, "a"), line(1, 0, 0, "a"))
		bowls := append(slices.Clone(b.Bowls), to(7, 8), to(8, 9))
		groups := append(slices.Clone(b.Ear.Alike), "xy", "vw")
		list := append(pairs(0, 1), pairs(2, 3)...)
		keptLines, keptBowls, keptGroups, keptList := slices.Clone(lines), slices.Clone(bowls), slices.Clone(groups), slices.Clone(list)
		b.Lines, b.Bowls, b.Ear.Alike = lines[:len(b.Lines)], bowls[:len(b.Bowls)], groups[:len(b.Ear.Alike)]
		ask(b)
		house.IsTruth(b, list[:1])
		if !slices.Equal(lines, keptLines) || !slices.Equal(bowls, keptBowls) || !slices.Equal(groups, keptGroups) || !slices.Equal(list, keptList) {
			t.Fatalf("%v: an argument was changed", b)
		}
	}
}

// P8.8, R4: results are new memory, and nothing of an argument is kept.
func TestResultsAreNew(t *testing.T) {
	b, torn := book(), book(bowls(0, 5, 5), bowls(1, 5, 5))
	twice, _ := house.Twice(b)
	wrong, _ := house.Wrong(torn)
	if len(twice) != 1 || len(wrong) != 2 {
		t.Fatalf("%v, %v", twice, wrong)
	}
	twice[0], wrong[0] = api.NamePair{One: 7, Other: 8}, 9
	b.Lines[4], b.Bowls[1], b.Ear.Alike[0], torn.Bowls[0] = line(1, 0, 1, "a"), at(7), "xy", at(4)
	again, e := house.Twice(book())
	wantList(t, "Twice", again, e, pairs(4, 5), api.OK)
	wrongAgain, e := house.Wrong(book(bowls(0, 5, 5), bowls(1, 5, 5)))
	wantList(t, "Wrong", wrongAgain, e, []int{0, 1}, api.OK)
	if twice[0] != (api.NamePair{One: 7, Other: 8}) || !slices.Equal(wrong, []int{9, 1}) {
		t.Error("a result was changed by a later call")
	}
}

// P2: the same arguments have the same result, whatever was asked before.
func TestSameAgain(t *testing.T) {
	r := rand.New(rand.NewSource(12))
	var books []api.HouseBook
	var answers []string
	for range 100 {
		b := someBook(r, r.Intn(11))
		if r.Intn(8) == 0 {
			b.Towns = 5
		}
		books, answers = append(books, b), append(answers, ask(b))
	}
	for _, i := range r.Perm(len(books)) {
		if ask(books[i]) != answers[i] {
			t.Errorf("%v: another answer", books[i])
		}
	}
}
