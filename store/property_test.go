package store_test

import (
	"fmt"
	"math/rand"
	"slices"
	"testing"

	"clavendier/api"
	"clavendier/store"
)

// inside reports whether a span lies in another one.
func inside(one, other api.Span) bool { return other.Low <= one.Low && one.High <= other.High }

// tell is what all functions return of a store.
func tell(b api.StoreBook) string {
	week, good, e := store.Short(b)
	half, e2 := store.Half(b)
	text := fmt.Sprint(store.Check(b), week, good, e, len(half), half, e2)
	for n := -1; n <= 9; n++ {
		lasts, e1 := store.Lasts(b, n)
		most, e2 := store.Most(b, n)
		need, e3 := store.Need(b, n)
		later, e4 := store.Later(b, n)
		holds, e5 := store.Holds(b, []int{0, n})
		text += fmt.Sprint("; ", lasts, e1, most, e2, need, e3, later, e4, holds, e5)
		for good := range 3 {
			left, e := store.Left(b, good, n)
			text += fmt.Sprint(", ", left, e)
		}
	}
	return text
}

// lastsAll are the spans of weeks for which all goods of a store last.
func lastsAll(t *testing.T, b api.StoreBook) []api.Span {
	t.Helper()
	var list []api.Span
	for good := range b.Goods {
		s, e := store.Lasts(b, good)
		if e != api.OK {
			t.Fatalf("%v: Lasts of %d: error %d", b, good, e)
		}
		list = append(list, s)
	}
	return list
}

// wantFates reports where Left, Lasts and Short do not tell the fates of all goods.
func wantFates(t *testing.T, b api.StoreBook, fates []fate) {
	t.Helper()
	for good, f := range fates {
		for week := range b.Weeks {
			must, code := naiveLeft(f, week)
			s, e := store.Left(b, good, week)
			want(t, fmt.Sprintf("%v: Left of %d behind %d", b, good, week), s, e, must, code)
		}
		s, e := store.Lasts(b, good)
		want(t, fmt.Sprintf("%v: Lasts of %d", b, good), s, e, naiveLasts(f), api.OK)
	}
	week, good, code := naiveShort(fates)
	wantShort(t, fmt.Sprint(b), b, week, good, code)
}

// P6.2, P6.3, P6.10: of tiny stores what is told is so in all truths, and each end in one; so is what the tests calculate otherwise.
func TestTruthByTruth(t *testing.T) {
	r := rand.New(rand.NewSource(1))
	surely, perhaps, many := 0, 0, 0
	for range 400 {
		b := someTinyStore(r)
		some := truthByTruth(b)
		wantFates(t, b, some)
		wantFates(t, b, fates(b))
		if truthsOf(b) > 100 {
			many++
		}
		for _, f := range some {
			if s := naiveLasts(f); s == at(len(b.Weeks)) {
				surely++
			} else if s.Low < s.High {
				perhaps++
			}
		}
	}
	if surely < 100 || perhaps < 100 || many < 200 {
		t.Errorf("%d goods surely last, %d perhaps, %d of 400 stores have many truths: too few", surely, perhaps, many)
	}
}

// P6.2, P6.3, P6.10: the same of larger stores.
func TestLeftAsCalculatedPlainly(t *testing.T) {
	r := rand.New(rand.NewSource(2))
	kinds := map[api.Errno]int{}
	for range 300 {
		b := someStore(r, middle)
		some := fates(b)
		wantFates(t, b, some)
		_, _, e := naiveShort(some)
		kinds[e]++
	}
	if kinds[api.OK] < 50 || kinds[api.ErrNone] < 50 {
		t.Errorf("too few stores of a kind: %v", kinds)
	}
}

// P6.4, P6.5, P6.6: Most, Need and Later do as the plainest calculation does.
func TestMoreAsCalculatedPlainly(t *testing.T) {
	r := rand.New(rand.NewSource(3))
	kinds := map[string]int{}
	count := func(what string, n int, e api.Errno) {
		kinds[fmt.Sprint(what, " ", min(n, 2), e)]++
	}
	for range 600 {
		b := someStore(r, middle)
		for week := range b.Weeks {
			must, code := naiveMost(b, week)
			n, e := store.Most(b, week)
			want(t, fmt.Sprintf("%v: Most of %d", b, week), n, e, must, code)
			count("Most", n, e)
		}
		for good := range b.Goods {
			must, code := naiveNeed(b, good)
			n, e := store.Need(b, good)
			want(t, fmt.Sprintf("%v: Need of %d", b, good), n, e, must, code)
			count("Need", n, e)
		}
		for mule := range b.Mules {
			must, code := naiveLater(b, mule)
			n, e := store.Later(b, mule)
			want(t, fmt.Sprintf("%v: Later of %d", b, mule), n, e, must, code)
			count("Later", n, e)
		}
	}
	for _, kind := range []string{"Most 0 4", "Most 0 0", "Most 1 0", "Most 2 0", "Need 0 4", "Need 0 0", "Need 2 0", "Later 0 4", "Later 0 0", "Later 1 0", "Later 2 0"} {
		if kinds[kind] < 8 {
			t.Errorf("too few answers of a kind: %d of %s", kinds[kind], kind)
		}
	}
}

// P6.7: Holds and Half do as the plainest calculation does.
func TestHalfAsCalculatedPlainly(t *testing.T) {
	r := rand.New(rand.NewSource(4))
	long := map[int]int{}
	for range 400 {
		b := someStore(r, middle)
		must, code := naiveHalf(b)
		list, e := store.Half(b)
		wantList(t, fmt.Sprintf("%v: Half", b), list, e, must, code)
		if e == api.OK {
			long[len(list)]++
		} else {
			long[-1]++
		}
		for _, halves := range subsets(len(b.Weeks)) {
			is, e := store.Holds(b, halves)
			want(t, fmt.Sprintf("%v: Holds in %v", b, halves), is, e, allLast(b, halves), api.OK)
		}
	}
	if long[-1] < 40 || long[0] < 40 || long[1] < 20 || long[2] < 5 || long[3] < 2 {
		t.Errorf("too few lists of a kind: %v", long)
	}
}

// P6.9: whatever is true, what is left lies within what is returned, and no good runs out sooner, or lasts longer.
func TestWhatIsThereUntilTheMules(t *testing.T) {
	r := rand.New(rand.NewSource(5))
	left, gone, not := 0, 0, 0
	for range 2000 {
		b := someStore(r, whole)
		x := lived(r, b, nil)
		lasts := lastsAll(t, b)
		week, first, short := store.Short(b)
		for good := range b.Goods {
			truly := happened(b, x, good)
			call := fmt.Sprintf("%v, %v, %d: ", b, x, good)
			if !inside(at(len(truly)), lasts[good]) {
				t.Errorf("%sit lasts for %d weeks, not for %v", call, len(truly), lasts[good])
			}
			if len(truly) < len(b.Weeks) {
				gone++
				if sooner := (len(truly) < week) || len(truly) == week && good < first; short != api.OK || sooner {
					t.Errorf("%sit runs out in %d; Short: %d, %d, error %d", call, len(truly), week, first, short)
				}
			}
			for week := range b.Weeks {
				s, e := store.Left(b, good, week)
				if e == api.ErrStoreOut {
					not++
					continue
				}
				left++
				if e != api.OK || week >= len(truly) || !inside(at(truly[week]), s) {
					t.Errorf("%s%v is left; Left behind %d: %v, error %d", call, truly, week, s, e)
				}
			}
		}
	}
	if left < 2000 || gone < 500 || not < 2000 {
		t.Errorf("%d spans, %d goods that ran out, %d that may have: too few of a kind", left, gone, not)
	}
}

// P6.10: of any store each end that is returned is so in a truth.
func TestEndsAreTrue(t *testing.T) {
	r := rand.New(rand.NewSource(6))
	ends := 0
	for range 500 {
		b := someStore(r, whole)
		some := slices.Concat(scarce(b, nil), rich(b, nil))
		for good := range b.Goods {
			weeks, lefts := map[int]bool{}, map[[2]int]bool{}
			for _, x := range some {
				truly := happened(b, x, good)
				weeks[len(truly)] = true
				for week, n := range truly {
					lefts[[2]int{week, n}] = true
				}
			}
			if s, e := store.Lasts(b, good); e != api.OK || !weeks[s.Low] || !weeks[s.High] {
				t.Errorf("%v: %d lasts for %v, error %d, but truly for %v", b, good, s, e, weeks)
			}
			for week := range b.Weeks {
				if s, e := store.Left(b, good, week); e == api.OK {
					ends++
					if !lefts[[2]int{week, s.Low}] || !lefts[[2]int{week, s.High}] {
						t.Errorf("%v: Left of %d behind %d: %v, but truly %v", b, good, week, s, lefts)
					}
				} else if !weeks[week] && !slices.ContainsFunc(some, func(x truth) bool { return len(happened(b, x, good)) <= week }) {
					t.Errorf("%v: Left of %d behind %d: error %d, but it lasts for %v", b, good, week, e, weeks)
				}
			}
		}
	}
	if ends < 500 {
		t.Errorf("%d spans of what is left: too few", ends)
	}
}

// smaller is a number that is not greater, and often less.
func smaller(r *rand.Rand, n int) int { return n - r.Intn(n+1)*r.Intn(2) }

// P6.11: with more at first, fewer guests, or half, nothing lasts for fewer weeks.
func TestNothingLastsForFewerWeeks(t *testing.T) {
	r := rand.New(rand.NewSource(7))
	better := map[string]int{}
	for range 1000 {
		b := someStore(r, whole)
		before := lastsAll(t, b)
		for what, change := range map[string]func(b *api.StoreBook){
			"more at first": func(b *api.StoreBook) {
				for i := range b.Goods {
					g := &b.Goods[i]
					g.Have.High += r.Intn(g.Room - g.Have.High + 1)
					g.Have.Low += r.Intn(g.Have.High - g.Have.Low + 1)
				}
			},
			"fewer guests": func(b *api.StoreBook) {
				for i, s := range b.Weeks {
					low := smaller(r, s.Low)
					b.Weeks[i] = to(low, low+smaller(r, s.High-low))
				}
			},
			"half": func(b *api.StoreBook) {
				for i, g := range b.Goods {
					b.Goods[i].Each = to(half(g.Each.Low), half(g.Each.High))
				}
			},
		} {
			other := changed(b, change)
			for good, s := range lastsAll(t, other) {
				if s.Low < before[good].Low || s.High < before[good].High {
					t.Errorf("%v: with %s, %v, %d lasts for %v, not for %v", b, what, other, good, s, before[good])
				}
				if s != before[good] {
					better[what]++
				}
			}
		}
	}
	if better["more at first"] < 50 || better["fewer guests"] < 50 || better["half"] < 50 {
		t.Errorf("too few goods last longer: %v", better)
	}
}

// P6.11: with half in more weeks all still lasts.
func TestMoreWeeksWithHalf(t *testing.T) {
	r := rand.New(rand.NewSource(8))
	held, more := 0, 0
	for range 1000 {
		b := someStore(r, whole)
		var few, many []int
		for week := range b.Weeks {
			if n := r.Intn(3); n > 0 {
				many = append(many, week)
				if n > 1 {
					few = append(few, week)
				}
			}
		}
		one, e1 := store.Holds(b, few)
		two, e2 := store.Holds(b, many)
		if e1 != api.OK || e2 != api.OK || one && !two {
			t.Errorf("%v: Holds in %v: %v, error %d; in %v: %v, error %d", b, few, one, e1, many, two, e2)
		}
		if one {
			held++
		} else if two {
			more++
		}
	}
	if held < 50 || more < 20 {
		t.Errorf("%d stores last, %d with half in more weeks: too few of a kind", held, more)
	}
}

// P6.11: with fewer weeks in the book each good lasts as long as before, or for all of them; what is left behind them is the same.
func TestFewerWeeks(t *testing.T) {
	r := rand.New(rand.NewSource(9))
	fewer := 0
	for range 500 {
		b := someStore(r, whole)
		before := lastsAll(t, b)
		for weeks := 1; weeks < len(b.Weeks); weeks++ {
			other := changed(b, func(b *api.StoreBook) { b.Weeks = b.Weeks[:weeks] })
			for good, s := range lastsAll(t, other) {
				if must := to(min(weeks, before[good].Low), min(weeks, before[good].High)); s != must {
					t.Errorf("%v: with %d weeks %d lasts for %v, not for %v", b, weeks, good, s, must)
				}
				if s.Low < weeks {
					fewer++
				}
				one, e1 := store.Left(b, good, weeks-1)
				two, e2 := store.Left(other, good, weeks-1)
				want(t, fmt.Sprintf("%v: Left of %d with %d weeks", b, good, weeks), two, e2, one, e1)
			}
		}
	}
	if fewer < 500 {
		t.Errorf("%d goods do not last for fewer weeks: too few", fewer)
	}
}

// P6.12: with as many more guests as are returned all still lasts, with one more it does not.
func TestMoreGuests(t *testing.T) {
	r := rand.New(rand.NewSource(10))
	more, all := 0, 0
	for range 700 {
		b := someStore(r, whole)
		for week := range b.Weeks {
			n, e := store.Most(b, week)
			if !lastsIn(b, scarce(b, nil)) {
				want(t, fmt.Sprintf("%v: Most of %d", b, week), n, e, 0, api.ErrNone)
				continue
			}
			if e != api.OK || n < 0 || n > 99 || !lastsIn(b, scarce(crowded(b, week, n), nil)) {
				t.Errorf("%v: Most of %d: %d, error %d, but it does not last", b, week, n, e)
			}
			if n == 99 {
				all++
			} else if more++; lastsIn(b, scarce(crowded(b, week, n+1), nil)) {
				t.Errorf("%v: Most of %d: %d, but with one more it lasts", b, week, n)
			}
		}
	}
	if more < 100 || all < 30 {
		t.Errorf("%d weeks with guests more, %d with 99: too few of a kind", more, all)
	}
}

// P6.12: with as much at first as is needed the good lasts, with less it does not.
func TestWhatIsNeeded(t *testing.T) {
	r := rand.New(rand.NewSource(11))
	needed, none := 0, 0
	for range 1000 {
		b := someStore(r, whole)
		for good := range b.Goods {
			lasts := func(n int) bool {
				s, e := store.Lasts(holding(b, good, n), good)
				return e == api.OK && s.Low == len(b.Weeks)
			}
			n, e := store.Need(b, good)
			switch {
			case e == api.ErrNone:
				if none++; n != 0 || lasts(b.Goods[good].Room) {
					t.Errorf("%v: Need of %d: %d, error %d, but with all that there is room for it lasts", b, good, n, e)
				}
			case e != api.OK || n < 0 || n > b.Goods[good].Room || !lasts(n):
				t.Errorf("%v: Need of %d: %d, error %d, but it does not last", b, good, n, e)
			case n > 0:
				if needed++; lasts(n-1) || lasts(r.Intn(n)) {
					t.Errorf("%v: Need of %d: %d, but with less it lasts", b, good, n)
				}
			}
		}
	}
	if needed < 300 || none < 300 {
		t.Errorf("%d goods of which something is needed, %d that do not last: too few of a kind", needed, none)
	}
}

// P6.12: a mule that is later by as much as is returned is soon enough; by one week more it is not.
func TestLaterMules(t *testing.T) {
	r := rand.New(rand.NewSource(12))
	later := map[int]int{}
	for range 1500 {
		b := someStore(r, whole)
		for mule := range b.Mules {
			n, e := store.Later(b, mule)
			if !lastsIn(b, scarce(b, nil)) {
				want(t, fmt.Sprintf("%v: Later of %d", b, mule), n, e, 0, api.ErrNone)
				continue
			}
			later[n]++
			if e != api.OK || n < 0 || n > 9 || !lastsIn(b, scarce(delayed(b, mule, n), nil)) {
				t.Errorf("%v: Later of %d: %d, error %d, but it does not last", b, mule, n, e)
			}
			if n < 9 && lastsIn(b, scarce(delayed(b, mule, n+1), nil)) {
				t.Errorf("%v: Later of %d: %d, but by one week more it lasts", b, mule, n)
			}
		}
	}
	if later[0] < 20 || later[1] < 10 || later[2]+later[3]+later[4] < 10 || later[9] < 100 {
		t.Errorf("too few mules of a kind: %v", later)
	}
}

// P6.13: with half in the weeks that are returned all goods last in each truth; with fewer weeks, or with those of a list that comes before, there is a truth in which some good runs out.
func TestTheWeeksWithHalf(t *testing.T) {
	r := rand.New(rand.NewSource(13))
	long := map[int]int{}
	for range 300 {
		b := someStore(r, whole)
		list, e := store.Half(b)
		if e != api.OK {
			if e != api.ErrNone || len(list) > 0 {
				t.Errorf("%v: Half: %v, error %d", b, list, e)
			}
			list = nil
			long[-1]++
		} else {
			long[len(list)]++
			for range 20 {
				x := lived(r, b, list)
				if !lastsIn(b, []truth{x}) {
					t.Errorf("%v: Half: %v, but in %v it does not last", b, list, x)
				}
			}
		}
		for _, halves := range subsets(len(b.Weeks)) {
			last := lastsIn(b, scarce(b, halves))
			if e == api.OK && slices.Equal(halves, list) {
				if !last {
					t.Errorf("%v: Half: %v, but it does not last", b, list)
				}
				break
			}
			if last {
				t.Errorf("%v: Half: %v, error %d, but %v comes before", b, list, e, halves)
			}
		}
	}
	if long[-1] < 50 || long[0] < 50 || long[1] < 10 || long[2] < 10 || long[3]+long[4]+long[5] < 10 {
		t.Errorf("too few lists of a kind: %v", long)
	}
}

// P6.8, R4: arguments are not changed, not even behind their ends.
func TestArgumentsAreRead(t *testing.T) {
	r := rand.New(rand.NewSource(14))
	for range 100 {
		b := someStore(r, whole)
		goods := append(slices.Clone(b.Goods), api.StoreGood{Room: 1}, api.StoreGood{Room: 2})
		weeks := append(slices.Clone(b.Weeks), at(1), at(2))
		mules := append(slices.Clone(b.Mules), api.StoreMule{Good: 3}, api.StoreMule{Good: 4})
		b.Goods, b.Weeks, b.Mules = goods[:len(b.Goods)], weeks[:len(b.Weeks)], mules[:len(b.Mules)]
		halves := []int{0, 7, 8}
		before := fmt.Sprint(goods, weeks, mules, halves)
		tell(b)
		store.Holds(b, halves[:1])
		if after := fmt.Sprint(goods, weeks, mules, halves); after != before {
			t.Fatalf("%s: an argument was changed to %s", before, after)
		}
	}
}

// P6.8, R4: results are new memory, and nothing of an argument is kept.
func TestResultsAreNew(t *testing.T) {
	b := book()
	one, e := store.Half(b)
	wantList(t, "Half", one, e, []int{0, 1}, api.OK)
	two, _ := store.Half(b)
	one[0] = 7
	_ = append(one, 8)
	b.Goods[0].Have, b.Weeks[0], b.Mules[0].Load = at(0), at(0), at(0)
	again, e := store.Half(book())
	wantList(t, "Half", again, e, []int{0, 1}, api.OK)
	if !slices.Equal(one, []int{7, 1}) || !slices.Equal(two, []int{0, 1}) {
		t.Errorf("a result was changed by a later call, or by another result: %v, %v", one, two)
	}
	weeks := []int{0, 1}
	store.Holds(book(), weeks)
	weeks[1] = 2
	is, e := store.Holds(book(), []int{0, 1})
	want(t, "Holds", is, e, true, api.OK)
}

// R3: between a list that is nil and one that is empty there is no difference.
func TestNilAndEmpty(t *testing.T) {
	r := rand.New(rand.NewSource(15))
	for range 50 {
		b := someStore(r, whole)
		b.Mules = nil
		other := b
		other.Mules = []api.StoreMule{}
		if one, two := tell(b), tell(other); one != two {
			t.Errorf("%v: %s; with an empty list: %s", b, one, two)
		}
	}
}

// P2: the same arguments have the same result, whatever was asked before.
func TestSameAgain(t *testing.T) {
	r := rand.New(rand.NewSource(16))
	var stores []api.StoreBook
	var told []string
	for range 60 {
		b := someStore(r, whole)
		stores, told = append(stores, b), append(told, tell(b))
	}
	for _, i := range r.Perm(len(stores)) {
		if tell(stores[i]) != told[i] {
			t.Errorf("%v: another answer", stores[i])
		}
	}
}
