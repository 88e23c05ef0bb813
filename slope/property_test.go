package slope_test

import (
	"fmt"
	"math/rand"
	"slices"
	"testing"

	"clavendier/api"
	"clavendier/slope"
)

// inside reports whether a span lies in another one.
func inside(one, other api.Span) bool { return other.Low <= one.Low && one.High <= other.High }

// isSubset reports whether all numbers of a list are in another one.
func isSubset(list, all []int) bool {
	return !slices.ContainsFunc(list, func(n int) bool { return !slices.Contains(all, n) })
}

// tell returns what is told of a book that can be true.
func tell(t *testing.T, b api.SlopeBook) told {
	t.Helper()
	var list told
	for hour := range b.Hours {
		load, e := slope.Load(b, hour)
		if e != api.OK {
			t.Fatalf("%v: Load in %d: error %d", b, hour, e)
		}
		list.loads = append(list.loads, load)
	}
	free, e := slope.Free(b)
	falls, f := slope.Falls(b)
	if e != api.OK || f != api.OK {
		t.Fatalf("%v: Free: error %d, Falls: error %d", b, e, f)
	}
	list.free, list.falls = free, falls
	return list
}

// ask asks everything of a book.
func ask(b api.SlopeBook) string {
	right, e1 := slope.Right(b)
	free, e2 := slope.Free(b)
	falls, e3 := slope.Falls(b)
	wrong, e4 := slope.Wrong(b)
	text := fmt.Sprint(slope.Check(b), right, e1, free, e2, falls, e3, wrong, e4)
	for hour := -1; hour <= len(b.Hours); hour++ {
		load, e1 := slope.Load(b, hour)
		safe, e2 := slope.Safe(b, hour)
		until, e3 := slope.Until(b, hour)
		cross, e4 := slope.Cross(b, hour, 2)
		text += fmt.Sprint("; ", load, e1, safe, e2, until, e3, cross, e4)
	}
	return text
}

// sightsOf are some sights of a book: those of one truth, of another one, or any.
func sightsOf(r *rand.Rand, b api.SlopeBook, most int) []api.SlopeSight {
	var list []api.SlopeSight
	one, other := lived(r, b), lived(r, b)
	for range r.Intn(most + 1) {
		switch r.Intn(6) {
		case 0:
			list = append(list, someSight(r, b))
		case 1:
			list = append(list, other.seen(r))
		default:
			list = append(list, one.seen(r))
		}
	}
	return list
}

// P3.1 to P3.6, R6: all functions do as the plainest calculation does.
func TestAsCalculatedPlainly(t *testing.T) {
	r := rand.New(rand.NewSource(1))
	rights := 0
	for range 1200 {
		b := smallBook(r, 1+r.Intn(3))
		b.Sights = sightsOf(r, b, 5)
		call := fmt.Sprintf("%v: ", b)
		all := allTruths(b)
		truths := itsTruths(all, b.Sights)
		right, e := slope.Right(b)
		want(t, call+"Right", right, e, len(truths) > 0, api.OK)
		wrong, e := slope.Wrong(b)
		wantList(t, call+"Wrong", wrong, e, naiveWrong(all, b.Sights), api.OK)
		code, must := api.ErrSlopeFalse, told{loads: make([]api.Span, len(b.Hours))}
		if len(truths) > 0 {
			rights++
			code, must = api.OK, naiveTold(b, truths)
		}
		free, e := slope.Free(b)
		wantList(t, call+"Free", free, e, must.free, code)
		falls, e := slope.Falls(b)
		want(t, call+"Falls", falls, e, must.falls, code)
		for hour := range b.Hours {
			load, e := slope.Load(b, hour)
			want(t, call+"Load", load, e, must.loads[hour], code)
			safe, e := slope.Safe(b, hour)
			want(t, call+"Safe", safe, e, slices.Contains(must.free, hour), code)
		}
		hoursAsCalculatedPlainly(t, b, must.free, code)
	}
	if rights < 400 || rights > 1000 {
		t.Errorf("%d of 1200 books can be true: too few of a kind", rights)
	}
}

// hoursAsCalculatedPlainly compares what Until and Cross return, where such hours are safe, or else the book has this error.
func hoursAsCalculatedPlainly(t *testing.T, b api.SlopeBook, free []int, code api.Errno) {
	t.Helper()
	expected := func(n int, is bool) (int, api.Errno) {
		switch {
		case code != api.OK:
			return 0, code
		case !is:
			return 0, api.ErrNone
		}
		return n, api.OK
	}
	for from := range b.Hours {
		must, f := expected(naiveUntil(free, from))
		n, e := slope.Until(b, from)
		want(t, fmt.Sprintf("%v: Until from %d", b, from), n, e, must, f)
		for long := 1; long <= 12; long++ {
			must, f := expected(naiveCross(free, from, long))
			n, e := slope.Cross(b, from, long)
			want(t, fmt.Sprintf("%v: Cross from %d for %d", b, from, long), n, e, must, f)
		}
	}
}

// P3.1 to P3.5: the same with wide books: each end of a load can be, and nothing behind it.
func TestWideBooksAsCalculatedPlainly(t *testing.T) {
	r := rand.New(rand.NewSource(2))
	for range 60 {
		b := wideBook(r)
		b.Start = someSpan(r, 150, 20)
		x := lived(r, b)
		for range r.Intn(4) {
			b.Sights = append(b.Sights, x.seen(r))
		}
		list := tell(t, b)
		for hour, load := range list.loads {
			can := canHave(b, hour, at(load.Low)) && canHave(b, hour, at(load.High))
			if !can || canHave(b, hour, to(0, load.Low-1)) || canHave(b, hour, to(load.High+1, 2000)) {
				t.Errorf("%v: the load in %d does not lie from %d to %d", b, hour, load.Low, load.High)
			}
			if slices.Contains(list.free, hour) == canHave(b, hour, to(b.Slope.Hold+1, 2000)) {
				t.Errorf("%v: the hour %d is safe, or not, but not so in %v", b, hour, list.free)
			}
		}
		var falls []int
		for s := range lastStates(b, b.Sights...) {
			falls = append(falls, s.falls)
		}
		if list.falls != to(slices.Min(falls), slices.Max(falls)) {
			t.Errorf("%v: it falls from %d to %d times, not %v", b, slices.Min(falls), slices.Max(falls), list.falls)
		}
		hoursAsCalculatedPlainly(t, b, list.free, api.OK)
	}
}

// P3.6: the same with wide books and many sights.
func TestWideWrongAsCalculatedPlainly(t *testing.T) {
	r := rand.New(rand.NewSource(3))
	longest := 0
	for range 300 {
		b := wideBook(r)
		b.Start = someSpan(r, 150, 20)
		b.Hours = b.Hours[:min(4, len(b.Hours))]
		b.Sights = sightsOf(r, b, 6)
		if r.Intn(2) == 0 {
			b.Sights = append(b.Sights[:len(b.Sights)/2], someSight(r, b), someSight(r, b))
		}
		wrong, e := slope.Wrong(b)
		longest = max(longest, len(wrong))
		for _, out := range subsets(len(b.Sights)) {
			if len(lastStates(b, without(b.Sights, out)...)) > 0 {
				wantList(t, fmt.Sprintf("%v: Wrong", b), wrong, e, out, api.OK)
				break
			}
		}
	}
	if longest < 3 {
		t.Errorf("no more than %d sights were wrong in any book", longest)
	}
}

// P3.8: whatever there truly was, it lies between what is told, and the slope lets go in no hour that is told to be safe.
func TestNobodyIsOnASlopeThatLetsGo(t *testing.T) {
	r := rand.New(rand.NewSource(4))
	fallen, safe := 0, 0
	for range 300 {
		b := wideBook(r)
		x := lived(r, b)
		for range r.Intn(7) {
			b.Sights = append(b.Sights, x.seen(r))
		}
		right, e := slope.Right(b)
		want(t, fmt.Sprintf("%v: Right", b), right, e, true, api.OK)
		wrong, e := slope.Wrong(b)
		wantList(t, fmt.Sprintf("%v: Wrong", b), wrong, e, nil, api.OK)
		list := tell(t, b)
		for hour, load := range list.loads {
			if !inside(at(x.loads[hour]), load) {
				t.Errorf("%v: the load in %d was %d, not in %v", b, hour, x.loads[hour], load)
			}
			if x.fell[hour] && slices.Contains(list.free, hour) {
				t.Errorf("%v: it let go in %d, which is told to be safe", b, hour)
			}
		}
		if !inside(at(x.falls()), list.falls) {
			t.Errorf("%v: it let go %d times, not %v", b, x.falls(), list.falls)
		}
		fallen, safe = fallen+x.falls(), safe+len(list.free)
	}
	if fallen < 100 || safe < 100 {
		t.Errorf("%d falls, %d safe hours: too few", fallen, safe)
	}
}

// P3.9: a crossing is in hours in which the slope truly does not let go; behind the last one that is told it may.
func TestCrossingsAreOver(t *testing.T) {
	r := rand.New(rand.NewSource(5))
	crossed, ended := 0, 0
	for range 600 {
		b := wideBook(r)
		x := lived(r, b)
		for range r.Intn(4) {
			b.Sights = append(b.Sights, x.seen(r))
		}
		from, long := r.Intn(len(b.Hours)), 1+r.Intn(4)
		if begin, e := slope.Cross(b, from, long); e == api.OK {
			crossed++
			if begin < from || begin+long > len(b.Hours) || slices.Contains(x.fell[begin:begin+long], true) {
				t.Errorf("%v: a crossing of %d hours is told to begin in %d", b, long, begin)
			}
			if last, e := slope.Until(b, begin); e != api.OK || last < begin+long-1 {
				t.Errorf("%v: from %d it is safe until %d, error %d", b, begin, last, e)
			}
		}
		if last, e := slope.Until(b, from); e == api.OK && last+1 < len(b.Hours) {
			ended++
			is, e := slope.Safe(b, last+1)
			want(t, fmt.Sprintf("%v: Safe in %d", b, last+1), is, e, false, api.OK)
		}
	}
	if crossed < 50 || ended < 50 {
		t.Errorf("%d crossings, %d ends: too few", crossed, ended)
	}
}

// P3.10: one sight more leaves no other loads, and no fewer safe hours.
func TestOneSightMore(t *testing.T) {
	r := rand.New(rand.NewSource(6))
	narrower, safer := 0, 0
	for range 300 {
		b := wideBook(r)
		x := lived(r, b)
		more := b
		more.Sights = []api.SlopeSight{x.seen(r)}
		for range r.Intn(6) {
			b, more = more, with(more, append(slices.Clone(more.Sights), x.seen(r))...)
		}
		one, other := tell(t, b), tell(t, more)
		for hour := range one.loads {
			if !inside(other.loads[hour], one.loads[hour]) {
				t.Errorf("%v: the load in %d is %v, and with one sight more %v", b, hour, one.loads[hour], other.loads[hour])
			}
			if other.loads[hour] != one.loads[hour] {
				narrower++
			}
		}
		if !isSubset(one.free, other.free) || !inside(other.falls, one.falls) {
			t.Errorf("%v: safe are %v, it falls %v; with one sight more %v, %v", b, one.free, one.falls, other.free, other.falls)
		}
		safer += len(other.free) - len(one.free)
	}
	if narrower < 50 || safer < 10 {
		t.Errorf("%d loads are narrower, %d hours safer: too few", narrower, safer)
	}
}

// widen makes more of an hour possible, if there can be more.
func widen(h *api.SlopeHour) {
	for _, s := range []*api.Span{&h.New, &h.Wind, &h.Sun} {
		if s.High-s.Low < 3 && s.High < 5 {
			s.High++
		}
		if s.High-s.Low < 3 && s.Low > 0 {
			s.Low--
		}
	}
}

// P3.10: more snow, wind or sun known as possible leaves no more safe hours, and no load less.
func TestMoreIsPossible(t *testing.T) {
	r := rand.New(rand.NewSource(7))
	fewer := 0
	for range 150 {
		b := wideBook(r)
		x := lived(r, b)
		for range r.Intn(4) {
			b.Sights = append(b.Sights, x.seen(r))
		}
		more := b
		more.Hours = slices.Clone(b.Hours)
		for i := range more.Hours {
			widen(&more.Hours[i])
		}
		one, other := tell(t, b), tell(t, more)
		if !isSubset(other.free, one.free) || !inside(one.falls, other.falls) {
			t.Errorf("%v: safe are %v, it falls %v; with more %v, %v", b, one.free, one.falls, other.free, other.falls)
		}
		for hour := range one.loads {
			if !inside(one.loads[hour], other.loads[hour]) {
				t.Errorf("%v: the load in %d is %v, and with more %v", b, hour, one.loads[hour], other.loads[hour])
			}
		}
		fewer += len(one.free) - len(other.free)
	}
	if fewer < 10 {
		t.Errorf("%d hours were not safe with more: too few", fewer)
	}
}

// P3.11: a slope that holds more, or on which more settles, has no fewer safe hours, if nothing was seen of it.
func TestBetterSlopes(t *testing.T) {
	r := rand.New(rand.NewSource(8))
	safer := 0
	for range 120 {
		b := wideBook(r)
		holds, settles := b, b
		holds.Slope.Hold += r.Intn(100)
		settles.Slope.Settle = min(30, b.Slope.Settle+r.Intn(10))
		free := tell(t, b).free
		for _, better := range []api.SlopeBook{holds, settles} {
			now := tell(t, better).free
			if !isSubset(free, now) {
				t.Errorf("%v: safe are %v; %v: %v", b, free, better.Slope, now)
			}
			safer += len(now) - len(free)
		}
	}
	if safer < 50 {
		t.Errorf("%d hours were safer: too few", safer)
	}
}

// P3.12: without the sights that are told the book can be true, without fewer it cannot.
func TestSightsThatMustBeWrong(t *testing.T) {
	r := rand.New(rand.NewSource(9))
	longest := 0
	for range 200 {
		b := wideBook(r)
		b.Sights = sightsOf(r, b, 4)
		b.Sights = append(b.Sights, someSight(r, b), someSight(r, b))
		wrong, e := slope.Wrong(b)
		if e != api.OK || !slices.IsSorted(wrong) || len(slices.Compact(slices.Clone(wrong))) != len(wrong) {
			t.Errorf("%v: Wrong: %v, error %d", b, wrong, e)
		}
		longest = max(longest, len(wrong))
		for _, out := range subsets(len(b.Sights)) {
			right, e := slope.Right(with(b, without(b.Sights, out)...))
			isIt := slices.Equal(out, wrong)
			if e != api.OK || isIt && !right || !isIt && right && len(out) <= len(wrong) && slices.Compare(out, wrong) < 0 {
				t.Errorf("%v: %v are told, but without %v: %v, error %d", b, wrong, out, right, e)
			}
			if right && len(out) < len(wrong) {
				t.Errorf("%v: %v are told, but %v are fewer", b, wrong, out)
			}
		}
	}
	if longest < 3 {
		t.Errorf("no more than %d sights were wrong in any book", longest)
	}
}

// P3.7, R4: arguments are not changed, not even behind their ends.
func TestArgumentsAreRead(t *testing.T) {
	r := rand.New(rand.NewSource(10))
	for range 100 {
		b := smallBook(r, 1+r.Intn(4))
		b.Sights = sightsOf(r, b, 6)
		hours := append(slices.Clone(b.Hours), api.SlopeHour{New: at(1)}, api.SlopeHour{New: at(2)})
		sights := append(slices.Clone(b.Sights), stayed(0, 1, 2), fell(0, 3, 4))
		keptHours, keptSights := slices.Clone(hours), slices.Clone(sights)
		b.Hours, b.Sights = hours[:len(b.Hours)], sights[:len(b.Sights)]
		ask(b)
		if !slices.Equal(hours, keptHours) || !slices.Equal(sights, keptSights) {
			t.Fatalf("%v: an argument was changed", b)
		}
	}
}

// P3.7, R4: results are new memory, and nothing of an argument is kept.
func TestResultsAreNew(t *testing.T) {
	b, not := gap(), falseBook()
	free, _ := slope.Free(b)
	wrong, _ := slope.Wrong(not)
	if len(free) != 3 || len(wrong) != 1 {
		t.Fatalf("%v, %v", free, wrong)
	}
	free[0], wrong[0] = 7, 9
	b.Hours[0], b.Sights[0], not.Sights[0] = api.SlopeHour{}, stayed(0, 0, 0), stayed(1, 39, 60)
	again, e := slope.Free(gap())
	wantList(t, "Free", again, e, []int{0, 2, 3}, api.OK)
	wrongAgain, e := slope.Wrong(falseBook())
	wantList(t, "Wrong", wrongAgain, e, []int{0}, api.OK)
	if !slices.Equal(free, []int{7, 2, 3}) || wrong[0] != 9 {
		t.Error("a result was changed by a later call")
	}
}

// P2: the same arguments have the same result, whatever was asked before.
func TestSameAgain(t *testing.T) {
	r := rand.New(rand.NewSource(11))
	var books []api.SlopeBook
	var answers []string
	for range 60 {
		b := smallBook(r, r.Intn(6))
		if len(b.Hours) > 0 {
			b.Sights = sightsOf(r, b, 6)
		}
		books, answers = append(books, b), append(answers, ask(b))
	}
	for _, i := range r.Perm(len(books)) {
		if ask(books[i]) != answers[i] {
			t.Errorf("%v: another answer", books[i])
		}
	}
}
