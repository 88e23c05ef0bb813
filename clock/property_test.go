package clock_test

import (
	"fmt"
	"math/rand"
	"slices"
	"testing"

	"clavendier/api"
	"clavendier/clock"
)

// inside reports whether a span lies in another one.
func inside(one, other api.Span) bool { return other.Low <= one.Low && one.High <= other.High }

// P1.1 to P1.7, P1.9, R5: all functions do as the plainest calculation does.
func TestAsCalculatedPlainly(t *testing.T) {
	r := rand.New(rand.NewSource(1))
	for range 400 {
		c, d := someClock(r, 6, r.Intn(3)), someClock(r, 6, r.Intn(2))
		cs, ds := all(c), all(d)
		n, m := r.Intn(30), r.Intn(30)
		name := fmt.Sprintf("%v, %v, %d, %d: ", c, d, n, m)

		must, code := naiveShows(cs, n)
		got, e := clock.Shows(c, n)
		want(t, name+"Shows", got, e, must, code)
		must, code = naiveMeans(cs, n)
		got, e = clock.Means(c, n)
		want(t, name+"Means", got, e, must, code)
		must, code = naivePassed(cs, n, m)
		got, e = clock.Passed(c, n, m)
		want(t, name+"Passed", got, e, must, code)
		kind, code := naiveBefore(cs, n, ds, m)
		is, e := clock.Before(c, n, d, m)
		want(t, name+"Before", is, e, kind, code)
	}
}

// P1.1 to P1.7: the same with three frosts.
func TestThreeFrostsAsCalculatedPlainly(t *testing.T) {
	r := rand.New(rand.NewSource(12))
	for range 8 {
		c := someClock(r, 6, 3)
		cs := all(c)
		must, code := naiveShows(cs, 24)
		got, e := clock.Shows(c, 24)
		want(t, fmt.Sprint(c, ": Shows"), got, e, must, code)
		reading := must.Low
		must, code = naiveMeans(cs, reading)
		got, e = clock.Means(c, reading)
		want(t, fmt.Sprint(c, ": Means"), got, e, must, code)
		must, code = naivePassed(cs, c.Set+4, c.Set+9)
		got, e = clock.Passed(c, c.Set+4, c.Set+9)
		want(t, fmt.Sprint(c, ": Passed"), got, e, must, code)
		b, _ := written(r, truth(r, c), 3)
		times, e := clock.Times(c, b)
		wantList(t, fmt.Sprint(c, b, ": Times"), times, e, naiveTimes(cs, b), api.OK)
		stood, e := clock.Stopped(c, b)
		want(t, fmt.Sprint(c, b, ": Stopped"), stood, e, naiveStopped(cs, b), api.OK)
		b[1].Reading += 2
		wrong, e := clock.Wrong(c, b)
		wantList(t, fmt.Sprint(c, b, ": Wrong"), wrong, e, naiveWrong(cs, b), api.OK)
	}
}

// P1.1 to P1.3: the same at the end of the three days.
func TestAtTheEndOfTheDays(t *testing.T) {
	r := rand.New(rand.NewSource(2))
	for range 100 {
		b := 4306 + r.Intn(6)
		e := b + 2 + r.Intn(3)
		c := api.ClockClock{Set: r.Intn(2) * 4319, Frosts: []api.ClockFrost{frost(at(3), to(5, 6)), frost(to(b, b+r.Intn(3)), to(e, e+r.Intn(3)))}}
		cs := all(c)
		for minute := 4300; minute <= 4319; minute++ {
			must, code := naiveShows(cs, minute)
			got, e := clock.Shows(c, minute)
			want(t, fmt.Sprint(c, ": Shows ", minute), got, e, must, code)
			must, code = naiveMeans(cs, c.Set+minute)
			got, e = clock.Means(c, c.Set+minute)
			want(t, fmt.Sprint(c, ": Means ", c.Set+minute), got, e, must, code)
			must, code = naivePassed(cs, c.Set+4300, c.Set+minute)
			got, e = clock.Passed(c, c.Set+4300, c.Set+minute)
			want(t, fmt.Sprint(c, ": Passed to ", c.Set+minute), got, e, must, code)
		}
	}
}

// P1.5 to P1.7, P1.12, R6: the same with books.
func TestBooksAsCalculatedPlainly(t *testing.T) {
	r := rand.New(rand.NewSource(3))
	rights := 0
	for i := range 500 {
		c := someClock(r, 4, r.Intn(3))
		cs := all(c)
		b := someBook(r, c, r.Intn(6))
		if i%2 == 0 {
			b, _ = written(r, truth(r, c), r.Intn(7))
			if len(b) > 0 && i%4 == 0 {
				b[r.Intn(len(b))].Reading++
			}
		}
		name := fmt.Sprintf("%v, %v: ", c, b)
		must := naiveRight(cs, b)
		right, e := clock.Right(c, b)
		want(t, name+"Right", right, e, must, api.OK)
		code, times, stood := api.ErrClockFalse, []api.Span(nil), api.Span{}
		if must {
			rights++
			code, times, stood = api.OK, naiveTimes(cs, b), naiveStopped(cs, b)
		}
		gotTimes, e := clock.Times(c, b)
		wantList(t, name+"Times", gotTimes, e, times, code)
		gotStood, e := clock.Stopped(c, b)
		want(t, name+"Stopped", gotStood, e, stood, code)
		wrong, e := clock.Wrong(c, b)
		wantList(t, name+"Wrong", wrong, e, naiveWrong(cs, b), api.OK)
	}
	if rights < 100 || rights > 400 {
		t.Errorf("%d of 500 books are right: too few of a kind", rights)
	}
}

// P1.9: whenever frosts truly were, what is so lies in what is told.
func TestTheClockThatStandsStill(t *testing.T) {
	r := rand.New(rand.NewSource(4))
	for range 1000 {
		c := someClock(r, 4320, r.Intn(4))
		d := truth(r, c)
		one, two := r.Intn(40), r.Intn(40)
		one, two = min(one, two), max(one, two)
		shown, e := clock.Shows(c, one)
		if e != api.OK || !inside(at(d.shows[one]), shown) {
			t.Errorf("%v: in %d it shows %d, not in %v", c, one, d.shows[one], shown)
		}
		meant, e := clock.Means(c, d.shows[one])
		if e != api.OK || !inside(at(one), meant) {
			t.Errorf("%v: %d was in %d, not in %v", c, d.shows[one], one, meant)
		}
		passed, e := clock.Passed(c, d.shows[one], d.shows[two])
		if e != api.OK || !inside(at(two-one), passed) {
			t.Errorf("%v: %d minutes passed, not in %v", c, two-one, passed)
		}
	}
}

// P1.9: both ends of what is told are so in a truth.
func TestEndsAreTrue(t *testing.T) {
	r := rand.New(rand.NewSource(5))
	for range 200 {
		c := someClock(r, 6, 1+r.Intn(2))
		cs := all(c)
		n := r.Intn(30)
		shown, _ := clock.Shows(c, n)
		meant, e := clock.Means(c, c.Set+n)
		in := func(minute, reading int) bool {
			return slices.ContainsFunc(cs, func(d *days) bool { return d.shows[minute] == reading })
		}
		if !in(n, shown.Low) || !in(n, shown.High) {
			t.Errorf("%v: in no truth are both ends of %v shown in %d", c, shown, n)
		}
		if e != api.OK || !in(meant.Low, c.Set+n) || !in(meant.High, c.Set+n) {
			t.Errorf("%v: %d is shown at neither end of %v", c, c.Set+n, meant)
		}
	}
}

// P1.10: a book that was written truly can be right, and tells the truth of each line.
func TestWrittenTruly(t *testing.T) {
	r := rand.New(rand.NewSource(6))
	for range 500 {
		c := someClock(r, 4320, r.Intn(4))
		d := truth(r, c)
		b, when := written(r, d, r.Intn(7))
		right, e := clock.Right(c, b)
		want(t, fmt.Sprint(c, b, ": Right"), right, e, true, api.OK)
		wrong, e := clock.Wrong(c, b)
		wantList(t, fmt.Sprint(c, b, ": Wrong"), wrong, e, nil, api.OK)
		stood, e := clock.Stopped(c, b)
		if e != api.OK || !inside(at(d.stood()), stood) {
			t.Errorf("%v, %v: it stood still for %d minutes, not in %v", c, b, d.stood(), stood)
		}
		times, e := clock.Times(c, b)
		if e != api.OK || len(times) != len(b) {
			t.Fatalf("%v, %v: Times: %v, error %d", c, b, times, e)
		}
		for i := range times {
			if !inside(at(when[i]), times[i]) || !inside(times[i], b[i].Known) {
				t.Errorf("%v, %v: the line %d was in %d, not in %v", c, b, i, when[i], times[i])
			}
		}
	}
}

// P1.11: a line more, or more that is known of a frost, leaves no more minutes.
func TestMoreKnown(t *testing.T) {
	r := rand.New(rand.NewSource(7))
	for range 300 {
		c := someClock(r, 4320, 1+r.Intn(3))
		d := truth(r, c)
		b, _ := written(r, d, 1+r.Intn(6))
		times, _ := clock.Times(c, b)
		stood, _ := clock.Stopped(c, b)
		out := r.Intn(len(b))
		fewer := without(b, []int{out})
		before, e := clock.Times(c, fewer)
		if e != api.OK {
			t.Fatalf("%v, %v: error %d", c, fewer, e)
		}
		for i, s := range slices.Delete(slices.Clone(times), out, out+1) {
			if !inside(s, before[i]) {
				t.Errorf("%v, %v: %v without the line %d, and %v with it", c, b, before[i], out, s)
			}
		}
		if wider, _ := clock.Stopped(c, fewer); !inside(stood, wider) {
			t.Errorf("%v, %v: Stopped %v without the line %d, and %v with it", c, b, wider, out, stood)
		}
		known := c
		known.Frosts = slices.Clone(c.Frosts)
		n := r.Intn(len(known.Frosts))
		known.Frosts[n] = frost(at(d.when[n][0]), at(d.when[n][1]))
		narrow, e := clock.Times(known, b)
		if e != api.OK {
			t.Fatalf("%v, %v: error %d", known, b, e)
		}
		for i := range narrow {
			if !inside(narrow[i], times[i]) {
				t.Errorf("%v, %v: %v, and %v when the frost %d is known", c, b, times[i], narrow[i], n)
			}
		}
		meant, _ := clock.Means(c, b[0].Reading)
		if s, e := clock.Means(known, b[0].Reading); e != api.OK || !inside(s, meant) {
			t.Errorf("%v: %v, and %v when the frost %d is known", c, meant, s, n)
		}
	}
}

// P1.12: without the lines that are told a book can be right, without fewer it cannot.
func TestLinesThatMustBeWrong(t *testing.T) {
	r := rand.New(rand.NewSource(8))
	for range 300 {
		c := someClock(r, 4, r.Intn(3))
		b := someBook(r, c, r.Intn(7))
		wrong, e := clock.Wrong(c, b)
		if right, f := clock.Right(c, without(b, wrong)); e != api.OK || f != api.OK || !right {
			t.Errorf("%v, %v: it is not right without %v either", c, b, wrong)
		}
		if !slices.IsSorted(wrong) || len(slices.Compact(slices.Clone(wrong))) != len(wrong) {
			t.Errorf("%v, %v: %v is not strictly increasing", c, b, wrong)
		}
		for set := range 1 << len(b) {
			var out []int
			for i := range b {
				if set>>i&1 == 1 {
					out = append(out, i)
				}
			}
			right, _ := clock.Right(c, without(b, out))
			if right && (len(out) < len(wrong) || len(out) == len(wrong) && slices.Compare(out, wrong) < 0) {
				t.Errorf("%v, %v: %v are told, but %v will do", c, b, wrong, out)
			}
		}
	}
}

// P1.13: without frosts time passes as readings do; with them no less does.
func TestTimePasses(t *testing.T) {
	r := rand.New(rand.NewSource(9))
	for range 500 {
		plain := api.ClockClock{Set: r.Intn(4320)}
		one, two := r.Intn(4320), r.Intn(4320)
		one, two = min(one, two), max(one, two)
		s, e := clock.Means(plain, plain.Set+one)
		want(t, fmt.Sprint(plain, ": Means ", plain.Set+one), s, e, at(one), api.OK)
		s, e = clock.Passed(plain, plain.Set+one, plain.Set+two)
		want(t, fmt.Sprint(plain, ": Passed ", one, two), s, e, at(two-one), api.OK)
		cold := someClock(r, 4320, 1+r.Intn(3))
		s, e = clock.Passed(cold, cold.Set+one%40, cold.Set+one%40+two%40)
		if e != api.OK || s.Low < two%40 {
			t.Errorf("%v: %v minutes passed from %d to %d", cold, s, one%40, one%40+two%40)
		}
	}
}

// ask asks everything of a clock and a book.
func ask(c api.ClockClock, b []api.ClockLine) string {
	shows, e1 := clock.Shows(c, 12)
	means, e2 := clock.Means(c, c.Set+12)
	passed, e3 := clock.Passed(c, c.Set+5, c.Set+15)
	before, e4 := clock.Before(c, c.Set+12, other(), 12)
	right, e5 := clock.Right(c, b)
	times, e6 := clock.Times(c, b)
	stood, e7 := clock.Stopped(c, b)
	wrong, e8 := clock.Wrong(c, b)
	return fmt.Sprint(clock.Check(c), shows, e1, means, e2, passed, e3, before, e4, right, e5, times, e6, stood, e7, wrong, e8)
}

// P1.8, R4: arguments are not changed, not even behind their ends.
func TestArgumentsAreRead(t *testing.T) {
	r := rand.New(rand.NewSource(10))
	for range 100 {
		c := someClock(r, 100, r.Intn(4))
		b := someBook(r, c, r.Intn(7))
		frosts := append(slices.Clone(c.Frosts), frost(at(1), at(2)), frost(at(3), at(4)))
		lines := append(slices.Clone(b), line(1, at(2)), line(3, at(4)))
		keptFrosts, keptLines := slices.Clone(frosts), slices.Clone(lines)
		c.Frosts, b = frosts[:len(c.Frosts)], lines[:len(b)]
		ask(c, b)
		if !slices.Equal(frosts, keptFrosts) || !slices.Equal(lines, keptLines) {
			t.Fatalf("%v, %v: an argument was changed", c, b)
		}
	}
}

// P1.8, R4: results are new memory, and nothing of an argument is kept.
func TestResultsAreNew(t *testing.T) {
	c, b := example(), book(95)
	times, _ := clock.Times(c, b)
	wrong, _ := clock.Wrong(c, book(97))
	if len(times) != 3 || len(wrong) != 1 {
		t.Fatalf("%v, %v", times, wrong)
	}
	times[0], wrong[0] = at(1), 1
	c.Frosts[0], b[0] = frost(at(1), at(2)), line(1, at(1))
	again, e := clock.Times(example(), book(95))
	wantList(t, "Times", again, e, []api.Span{at(20), at(90), at(95)}, api.OK)
	wrongAgain, e := clock.Wrong(example(), book(97))
	wantList(t, "Wrong", wrongAgain, e, []int{2}, api.OK)
	if times[0] != at(1) || times[1] != at(90) || wrong[0] != 1 {
		t.Error("a result was changed by a later call")
	}
}

// P2: the same arguments have the same result, whatever was asked before.
func TestSameAgain(t *testing.T) {
	r := rand.New(rand.NewSource(11))
	type asked struct {
		c      api.ClockClock
		b      []api.ClockLine
		answer string
	}
	var list []asked
	for range 50 {
		c := someClock(r, 4400, r.Intn(4))
		b := someBook(r, c, r.Intn(8))
		list = append(list, asked{c, b, ask(c, b)})
	}
	for _, i := range r.Perm(len(list)) {
		if x := list[i]; ask(x.c, x.b) != x.answer {
			t.Errorf("%v, %v: another answer", x.c, x.b)
		}
	}
}
