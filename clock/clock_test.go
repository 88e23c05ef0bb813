package clock_test

import (
	"math"
	"slices"
	"testing"

	"clavendier/api"
	"clavendier/clock"
)

func to(low, high int) api.Span { return api.Span{Low: low, High: high} }

func at(n int) api.Span { return to(n, n) }

func frost(begin, end api.Span) api.ClockFrost { return api.ClockFrost{Begin: begin, End: end} }

func line(reading int, known api.Span) api.ClockLine {
	return api.ClockLine{Reading: reading, Known: known}
}

func ever() api.Span { return to(0, 4319) }

// example is the clock of the chapter.
func example() api.ClockClock {
	return api.ClockClock{Set: 100, Frosts: []api.ClockFrost{frost(to(50, 52), to(80, 81)), frost(at(200), to(210, 212))}}
}

// other is the other clock of the chapter: it has no frosts.
func other() api.ClockClock { return api.ClockClock{} }

// book is the book of the chapter, with the minute of its last line.
func book(last int) []api.ClockLine {
	return []api.ClockLine{line(120, ever()), line(160, to(0, 90)), line(165, at(last))}
}

// chain is a clock whose frosts follow each other, and of which one was over at once.
func chain() api.ClockClock {
	return api.ClockClock{Set: 7, Frosts: []api.ClockFrost{frost(at(10), at(20)), frost(at(20), at(20)), frost(at(20), at(30))}}
}

// wrongClocks are clocks that are not valid.
func wrongClocks() map[string]api.ClockClock {
	with := func(frosts ...api.ClockFrost) api.ClockClock { return api.ClockClock{Frosts: frosts} }
	good := frost(at(5), at(6))
	return map[string]api.ClockClock{
		"a Set below 0":                      {Set: -1},
		"a Set behind the last minute":       {Set: 4320},
		"the least Set":                      {Set: math.MinInt},
		"the greatest Set":                   {Set: math.MaxInt},
		"four frosts":                        with(good, frost(at(7), at(7)), frost(at(8), at(8)), frost(at(9), at(9))),
		"a Begin that is no span":            with(frost(to(5, 4), at(6))),
		"an End that is no span":             with(frost(at(5), to(7, 6))),
		"a Begin below 0":                    with(frost(to(-1, 2), at(6))),
		"an End behind the last minute":      with(frost(at(5), to(4318, 4320))),
		"a Begin of five minutes":            with(frost(to(1, 5), at(6))),
		"an End of five minutes":             with(frost(at(5), to(6, 10))),
		"a Begin that is behind its End":     with(frost(to(5, 7), to(6, 9))),
		"an End that is behind the next one": with(frost(at(5), to(6, 8)), frost(to(7, 9), at(9))),
		"a second frost before the first":    with(frost(at(50), at(60)), frost(at(5), at(6))),
		"a wrong third frost":                with(good, frost(at(7), at(8)), frost(at(9), at(4320))),
		"bounds as far apart as can be":      with(frost(to(math.MinInt, math.MaxInt), to(math.MinInt, math.MaxInt))),
		"bounds the wrong way round":         with(frost(to(math.MaxInt, math.MinInt), at(6))),
	}
}

// wrongBooks are lists that are no books.
func wrongBooks() map[string][]api.ClockLine {
	return map[string][]api.ClockLine{
		"seven lines":                    slices.Repeat([]api.ClockLine{line(120, ever())}, 7),
		"a reading below 0":              {line(-1, ever())},
		"a reading that is never shown":  {line(8639, ever())},
		"the least reading":              {line(math.MinInt, ever())},
		"the greatest reading":           {line(math.MaxInt, ever())},
		"minutes the wrong way round":    {line(120, to(20, 19))},
		"a minute below 0":               {line(120, to(-1, 20))},
		"a minute behind the last one":   {line(120, to(20, 4320))},
		"bounds as far apart as can be":  {line(120, to(math.MinInt, math.MaxInt))},
		"a wrong line behind good ones":  {line(120, ever()), line(121, ever()), line(-1, ever())},
		"a wrong line, and a false book": {line(121, ever()), line(120, ever()), line(8639, ever())},
	}
}

// want reports what a call returned, if it is not what was to be.
func want[T comparable](t *testing.T, call string, got T, e api.Errno, must T, code api.Errno) {
	t.Helper()
	if got != must || e != code {
		t.Errorf("%s: %v, error %d; not %v, error %d", call, got, e, must, code)
	}
}

// wantList does the same with lists.
func wantList[T comparable](t *testing.T, call string, got []T, e api.Errno, must []T, code api.Errno) {
	t.Helper()
	if !slices.Equal(got, must) || e != code {
		t.Errorf("%s: %v, error %d; not %v, error %d", call, got, e, must, code)
	}
}

// P1.1, R7: what is valid, up to its ends.
func TestCheckValid(t *testing.T) {
	for i, c := range []api.ClockClock{
		{}, example(), other(), chain(),
		{Set: 4319},
		{Frosts: []api.ClockFrost{}},
		{Frosts: []api.ClockFrost{frost(to(0, 3), to(3, 6)), frost(to(6, 9), to(9, 12)), frost(to(12, 15), to(15, 18))}},
		{Frosts: []api.ClockFrost{frost(at(0), at(0)), frost(at(0), at(0)), frost(at(0), at(4319))}},
		{Frosts: []api.ClockFrost{frost(to(4316, 4319), at(4319))}},
		{Frosts: []api.ClockFrost{frost(at(5), to(4316, 4319)), frost(at(4319), at(4319))}},
	} {
		if e := clock.Check(c); e != api.OK {
			t.Errorf("the clock %d: error %d", i, e)
		}
	}
}

// P1.1, P1, R1, R2, R8: a wrong clock is the first error of all functions, with nothing else, whatever is asked.
func TestWrongClock(t *testing.T) {
	const e = api.ErrClock
	for name, c := range wrongClocks() {
		if got := clock.Check(c); got != e {
			t.Errorf("Check, %s: error %d", name, got)
		}
		for _, n := range []int{0, 20, 120, -1, 4320, 8639, math.MinInt, math.MaxInt} {
			span, got := clock.Shows(c, n)
			want(t, "Shows, "+name, span, got, api.Span{}, e)
			span, got = clock.Means(c, n)
			want(t, "Means, "+name, span, got, api.Span{}, e)
			span, got = clock.Passed(c, n, 5)
			want(t, "Passed, "+name, span, got, api.Span{}, e)
			is, got := clock.Before(c, n, other(), 5)
			want(t, "Before, "+name, is, got, 0, e)
			is, got = clock.Before(other(), n, c, 5)
			want(t, "Before, the other one with "+name, is, got, 0, e)
		}
		books := wrongBooks()
		books["no lines"] = nil
		books["a book that is right"] = book(95)
		for _, b := range books {
			right, got := clock.Right(c, b)
			want(t, "Right, "+name, right, got, false, e)
			times, got := clock.Times(c, b)
			wantList(t, "Times, "+name, times, got, nil, e)
			span, got := clock.Stopped(c, b)
			want(t, "Stopped, "+name, span, got, api.Span{}, e)
			wrong, got := clock.Wrong(c, b)
			wantList(t, "Wrong, "+name, wrong, got, nil, e)
		}
	}
}

// P1.1: what a clock shows, before, in and behind its frosts.
func TestShows(t *testing.T) {
	end := api.ClockClock{Set: 4319, Frosts: []api.ClockFrost{frost(to(4316, 4317), to(4318, 4319))}}
	for i, x := range []struct {
		c      api.ClockClock
		minute int
		must   api.Span
		e      api.Errno
	}{
		{example(), 0, at(100), api.OK},
		{example(), 60, to(150, 152), api.OK},
		{example(), 100, to(169, 172), api.OK},
		{example(), 300, to(357, 362), api.OK},
		{example(), 50, at(150), api.OK},
		{example(), 51, to(150, 151), api.OK},
		{example(), 52, to(150, 152), api.OK},
		{example(), 53, to(150, 152), api.OK},
		{example(), 80, to(150, 152), api.OK},
		{example(), 81, to(150, 153), api.OK},
		{example(), 82, to(151, 154), api.OK},
		{example(), 4319, to(4376, 4381), api.OK},
		{other(), 0, at(0), api.OK},
		{other(), 4319, at(4319), api.OK},
		{api.ClockClock{Set: 4319}, 4319, at(8638), api.OK},
		{chain(), 9, at(16), api.OK},
		{chain(), 11, at(17), api.OK},
		{chain(), 20, at(17), api.OK},
		{chain(), 21, at(17), api.OK},
		{chain(), 30, at(17), api.OK},
		{chain(), 31, at(18), api.OK},
		{end, 4316, at(8635), api.OK},
		{end, 4319, to(8635, 8637), api.OK},
		{example(), -1, api.Span{}, api.ErrClockAsk},
		{example(), 4320, api.Span{}, api.ErrClockAsk},
		{example(), math.MinInt, api.Span{}, api.ErrClockAsk},
		{example(), math.MaxInt, api.Span{}, api.ErrClockAsk},
		{other(), -1, api.Span{}, api.ErrClockAsk},
		{other(), 4320, api.Span{}, api.ErrClockAsk},
	} {
		got, e := clock.Shows(x.c, x.minute)
		want(t, "Shows "+string(rune('A'+i)), got, e, x.must, x.e)
	}
}

// P1.2: in which minutes a reading is shown.
func TestMeans(t *testing.T) {
	for i, x := range []struct {
		c       api.ClockClock
		reading int
		must    api.Span
		e       api.Errno
	}{
		{example(), 120, at(20), api.OK},
		{example(), 151, to(51, 82), api.OK},
		{example(), 365, to(303, 308), api.OK},
		{example(), 99, api.Span{}, api.ErrNone},
		{example(), 100, at(0), api.OK},
		{example(), 150, to(50, 81), api.OK},
		{example(), 152, to(52, 83), api.OK},
		{example(), 153, to(81, 84), api.OK},
		{example(), 4380, to(4318, 4319), api.OK},
		{example(), 4381, at(4319), api.OK},
		{example(), 4382, api.Span{}, api.ErrNone},
		{example(), 0, api.Span{}, api.ErrNone},
		{example(), 8638, api.Span{}, api.ErrNone},
		{other(), 0, at(0), api.OK},
		{other(), 4319, at(4319), api.OK},
		{other(), 4320, api.Span{}, api.ErrNone},
		{api.ClockClock{Set: 4319}, 8638, at(4319), api.OK},
		{api.ClockClock{Set: 4319}, 4318, api.Span{}, api.ErrNone},
		{chain(), 17, to(10, 30), api.OK},
		{chain(), 18, at(31), api.OK},
		{chain(), 16, at(9), api.OK},
		{api.ClockClock{Frosts: []api.ClockFrost{frost(at(0), at(4319))}}, 0, ever(), api.OK},
		{api.ClockClock{Frosts: []api.ClockFrost{frost(at(0), at(4319))}}, 1, api.Span{}, api.ErrNone},
		{api.ClockClock{Frosts: []api.ClockFrost{frost(to(8, 9), to(9, 10))}}, 9, to(9, 11), api.OK},
		{example(), -1, api.Span{}, api.ErrClockAsk},
		{example(), 8639, api.Span{}, api.ErrClockAsk},
		{example(), math.MinInt, api.Span{}, api.ErrClockAsk},
		{example(), math.MaxInt, api.Span{}, api.ErrClockAsk},
	} {
		got, e := clock.Means(x.c, x.reading)
		want(t, "Means "+string(rune('A'+i)), got, e, x.must, x.e)
	}
}

// P1.3: how much time passed; both readings are of the same truth.
func TestPassed(t *testing.T) {
	for i, x := range []struct {
		c        api.ClockClock
		from, to int
		must     api.Span
		e        api.Errno
	}{
		{example(), 120, 160, to(68, 71), api.OK},
		{example(), 150, 150, to(0, 31), api.OK},
		{example(), 160, 120, api.Span{}, api.ErrNone},
		{example(), 160, 160, at(0), api.OK},
		{example(), 151, 150, api.Span{}, api.ErrNone},
		{example(), 152, 153, to(1, 30), api.OK},
		{example(), 100, 4381, at(4319), api.OK},
		{example(), 100, 4382, api.Span{}, api.ErrNone},
		{example(), 150, 4382, api.Span{}, api.ErrNone}, // not even from the last minute of 150 on
		{example(), 99, 120, api.Span{}, api.ErrNone},
		{example(), 99, 99, api.Span{}, api.ErrNone},
		{example(), 0, 8638, api.Span{}, api.ErrNone},
		{example(), 8638, 8638, api.Span{}, api.ErrNone},
		{example(), 360, 370, at(10), api.OK}, // though 360 can have been in six minutes
		{chain(), 17, 17, to(0, 20), api.OK},
		{chain(), 16, 18, at(22), api.OK},
		{other(), 5, 9, at(4), api.OK},
		{other(), 0, 4319, at(4319), api.OK},
		{other(), 0, 4320, api.Span{}, api.ErrNone},
		{example(), -1, 120, api.Span{}, api.ErrClockAsk},
		{example(), 120, -1, api.Span{}, api.ErrClockAsk},
		{example(), 8639, 120, api.Span{}, api.ErrClockAsk},
		{example(), 120, 8639, api.Span{}, api.ErrClockAsk},
		{example(), 99, 8639, api.Span{}, api.ErrClockAsk},
		{example(), math.MinInt, math.MaxInt, api.Span{}, api.ErrClockAsk},
	} {
		got, e := clock.Passed(x.c, x.from, x.to)
		want(t, "Passed "+string(rune('A'+i)), got, e, x.must, x.e)
	}
}

// P1.4: which of two lines was first.
func TestBefore(t *testing.T) {
	if api.ClockNo != 0 || api.ClockMay != 1 || api.ClockYes != 2 {
		t.Error("package api is not as it was given")
	}
	for i, x := range []struct {
		c       api.ClockClock
		reading int
		d       api.ClockClock
		other   int
		must    int
		e       api.Errno
	}{
		{example(), 160, other(), 92, api.ClockYes, api.OK},
		{example(), 160, other(), 91, api.ClockMay, api.OK},
		{example(), 160, other(), 90, api.ClockMay, api.OK},
		{example(), 160, other(), 89, api.ClockMay, api.OK},
		{example(), 160, other(), 88, api.ClockNo, api.OK},
		{example(), 160, other(), 0, api.ClockNo, api.OK},
		{example(), 160, other(), 4320, 0, api.ErrNone},
		{other(), 87, example(), 160, api.ClockYes, api.OK},
		{other(), 88, example(), 160, api.ClockMay, api.OK},
		{other(), 90, example(), 160, api.ClockMay, api.OK},
		{other(), 91, example(), 160, api.ClockNo, api.OK},
		{example(), 160, example(), 160, api.ClockMay, api.OK}, // the frosts of two clocks, though they are known alike
		{example(), 160, example(), 161, api.ClockMay, api.OK},
		{example(), 164, example(), 160, api.ClockNo, api.OK},
		{other(), 7, other(), 7, api.ClockNo, api.OK},
		{other(), 7, other(), 8, api.ClockYes, api.OK},
		{example(), 99, other(), 5, 0, api.ErrNone},
		{other(), 5, example(), 99, 0, api.ErrNone},
		{example(), -1, other(), 5, 0, api.ErrClockAsk},
		{example(), 8639, other(), 5, 0, api.ErrClockAsk},
		{example(), 160, other(), -1, 0, api.ErrClockAsk},
		{example(), 160, other(), 8639, 0, api.ErrClockAsk},
		{example(), 99, other(), 8639, 0, api.ErrClockAsk},
		{example(), math.MinInt, other(), math.MaxInt, 0, api.ErrClockAsk},
	} {
		got, e := clock.Before(x.c, x.reading, x.d, x.other)
		want(t, "Before "+string(rune('A'+i)), got, e, x.must, x.e)
	}
}

// bookCase is a book, and what is so of it; it cannot be right if wrong is not nil.
type bookCase struct {
	name  string
	c     api.ClockClock
	book  []api.ClockLine
	times []api.Span
	stood api.Span
	wrong []int
}

func bookCases() []bookCase {
	still := api.ClockClock{Frosts: []api.ClockFrost{frost(at(10), at(20))}}
	maybe := api.ClockClock{Frosts: []api.ClockFrost{frost(to(10, 12), to(12, 13))}}
	lines := func(l ...api.ClockLine) []api.ClockLine { return l }
	return []bookCase{
		{"the book of the chapter", example(), book(95), []api.Span{at(20), at(90), at(95)}, to(40, 42), nil},
		{"its last line a minute before", example(), book(94), []api.Span{at(20), at(89), at(94)}, to(39, 41), nil},
		{"its last line in 97", example(), book(97), nil, api.Span{}, []int{2}},
		{"its last line in 96", example(), book(96), nil, api.Span{}, []int{1}},
		{"no lines", example(), nil, nil, to(38, 43), nil},
		{"no lines, no frosts", other(), nil, nil, at(0), nil},
		{"no lines, a frost that can have been over at once", maybe, nil, nil, to(0, 3), nil},
		{"two lines of one minute", other(), lines(line(5, ever()), line(5, ever())), []api.Span{at(5), at(5)}, at(0), nil},
		{"two lines in the wrong order", other(), lines(line(6, ever()), line(5, ever())), nil, api.Span{}, []int{0}},
		{"six lines of one minute", other(), slices.Repeat(lines(line(4319, at(4319))), 6), slices.Repeat([]api.Span{at(4319)}, 6), at(0), nil},
		{"a minute too soon", other(), lines(line(5, to(0, 4))), nil, api.Span{}, []int{0}},
		{"a minute too late", other(), lines(line(5, to(6, 9))), nil, api.Span{}, []int{0}},
		{"the ends of what is known", other(), lines(line(5, to(0, 5)), line(6, to(6, 9))), []api.Span{at(5), at(6)}, at(0), nil},
		{"while the clock stands still", still, lines(line(10, ever()), line(10, at(15)), line(10, ever())), []api.Span{to(10, 15), at(15), to(15, 20)}, at(10), nil},
		{"while it stands still, in the wrong order", still, lines(line(10, at(16)), line(10, at(15))), nil, api.Span{}, []int{0}},
		{"one line behind what is known of another one", still, lines(line(10, to(13, 20)), line(10, to(0, 17)), line(10, ever())), []api.Span{to(13, 17), to(13, 17), to(13, 20)}, at(10), nil},
		{"a reading that is never shown", example(), lines(line(99, ever()), line(120, ever())), nil, api.Span{}, []int{0}},
		{"nothing but such readings", example(), lines(line(0, ever()), line(8638, ever())), nil, api.Span{}, []int{0, 1}},
		{"each right by itself, not in one truth", example(), lines(line(150, at(60)), line(152, at(60))), nil, api.Span{}, []int{0}},
		{"not in one truth, and a line in the wrong order", example(), lines(line(150, at(60)), line(152, at(60)), line(120, ever())), nil, api.Span{}, []int{0, 1}},
		{"one line tells when another one was", example(), lines(line(152, at(60)), line(165, ever())), []api.Span{at(60), to(93, 94)}, to(38, 41), nil},
		{"the later line tells of the sooner one", example(), lines(line(151, ever()), line(165, at(96))), []api.Span{at(82), at(96)}, to(41, 43), nil},
		{"the first of many is wrong", other(), lines(line(9, ever()), line(1, ever()), line(2, ever()), line(3, ever())), nil, api.Span{}, []int{0}},
		{"two in between are wrong", other(), lines(line(1, ever()), line(9, ever()), line(2, ever()), line(8, ever()), line(3, ever())), nil, api.Span{}, []int{1, 3}},
		{"the last of many is wrong", other(), lines(line(1, ever()), line(2, ever()), line(3, ever()), line(0, ever())), nil, api.Span{}, []int{3}},
		{"all but one are wrong", other(), lines(line(6, ever()), line(5, ever()), line(4, ever()), line(3, ever()), line(2, ever()), line(1, ever())), nil, api.Span{}, []int{0, 1, 2, 3, 4}},
	}
}

// P1.5, P1.6, P1.7, R3, R6: books that are right, and such as are not.
func TestBooks(t *testing.T) {
	for _, x := range bookCases() {
		code := api.OK
		if x.wrong != nil {
			code = api.ErrClockFalse
		}
		right, e := clock.Right(x.c, x.book)
		want(t, "Right, "+x.name, right, e, x.wrong == nil, api.OK)
		times, e := clock.Times(x.c, x.book)
		wantList(t, "Times, "+x.name, times, e, x.times, code)
		stood, e := clock.Stopped(x.c, x.book)
		want(t, "Stopped, "+x.name, stood, e, x.stood, code)
		wrong, e := clock.Wrong(x.c, x.book)
		wantList(t, "Wrong, "+x.name, wrong, e, x.wrong, api.OK)
	}
}

// P1.5, P1.6, P1.7, P1, R1, R2: a list that is no book, though it could not be right either.
func TestWrongBook(t *testing.T) {
	const e = api.ErrClockAsk
	for name, b := range wrongBooks() {
		right, got := clock.Right(example(), b)
		want(t, "Right, "+name, right, got, false, e)
		times, got := clock.Times(example(), b)
		wantList(t, "Times, "+name, times, got, nil, e)
		stood, got := clock.Stopped(example(), b)
		want(t, "Stopped, "+name, stood, got, api.Span{}, e)
		wrong, got := clock.Wrong(example(), b)
		wantList(t, "Wrong, "+name, wrong, got, nil, e)
	}
	for _, b := range [][]api.ClockLine{{line(0, at(0))}, {line(8638, at(4319))}, {line(0, ever())}} {
		if _, got := clock.Right(example(), b); got != api.OK {
			t.Errorf("a book up to its ends, %v: error %d", b, got)
		}
	}
}

// R3: between nil and empty there is no difference.
func TestNilAndEmpty(t *testing.T) {
	none, empty := example(), example()
	none.Frosts, empty.Frosts = nil, []api.ClockFrost{}
	for _, c := range []api.ClockClock{none, empty, example()} {
		for _, b := range [][]api.ClockLine{nil, {}} {
			right, e := clock.Right(c, b)
			want(t, "Right", right, e, true, api.OK)
			times, e := clock.Times(c, b)
			wantList(t, "Times", times, e, nil, api.OK)
			wrong, e := clock.Wrong(c, b)
			wantList(t, "Wrong", wrong, e, nil, api.OK)
		}
	}
	for _, n := range []int{0, 100, 4319} {
		a, _ := clock.Shows(none, n)
		b, e := clock.Shows(empty, n)
		want(t, "Shows", b, e, a, api.OK)
		a, _ = clock.Means(none, n+100)
		b, e = clock.Means(empty, n+100)
		want(t, "Means", b, e, a, api.OK)
	}
}
