package slope_test

import (
	"fmt"
	"math"
	"slices"
	"testing"

	"clavendier/api"
	"clavendier/slope"
)

func to(low, high int) api.Span { return api.Span{Low: low, High: high} }

func at(n int) api.Span { return to(n, n) }

// stayed is a sight of an hour in which the slope did not let go.
func stayed(hour, low, high int) api.SlopeSight {
	return api.SlopeSight{Hour: hour, Load: to(low, high)}
}

// fell is a sight of an hour in which the slope let go.
func fell(hour, low, high int) api.SlopeSight {
	return api.SlopeSight{Hour: hour, Fell: true, Load: to(low, high)}
}

// book is the book of the chapter, with sights.
func book(sights ...api.SlopeSight) api.SlopeBook {
	return api.SlopeBook{
		Slope: api.SlopeSlope{Snow: 4, Wind: 3, Sun: 2, Settle: 5, Hold: 60},
		Start: to(20, 30),
		Hours: []api.SlopeHour{
			{New: to(3, 4), Wind: at(1)}, {New: to(2, 5), Wind: at(2)}, {Wind: to(0, 1), Sun: to(3, 4)}, {},
		},
		Sights: sights,
	}
}

// falseBook is the book of the chapter with sights that cannot all be right.
func falseBook() api.SlopeBook { return book(fell(0, 0, 2000), stayed(1, 39, 60)) }

// changed is the book of the chapter, changed.
func changed(change func(b *api.SlopeBook)) api.SlopeBook {
	b := book()
	change(&b)
	return b
}

// snowy is a slope on which nothing settles, and one of new snow lies as one: what it holds, what was left at first, and the new snow of each hour.
func snowy(hold int, start api.Span, hours ...api.Span) api.SlopeBook {
	b := api.SlopeBook{Slope: api.SlopeSlope{Snow: 1, Hold: hold}, Start: start}
	for _, s := range hours {
		b.Hours = append(b.Hours, api.SlopeHour{New: s})
	}
	return b
}

// with is a book with other sights.
func with(b api.SlopeBook, sights ...api.SlopeSight) api.SlopeBook {
	b.Sights = sights
	return b
}

// widest is the widest book that is valid.
func widest() api.SlopeBook {
	b := api.SlopeBook{Slope: api.SlopeSlope{Snow: 5, Wind: 5, Sun: 5, Hold: 1}, Start: to(0, 300)}
	b.Hours = slices.Repeat([]api.SlopeHour{{New: to(6, 9), Wind: to(2, 5), Sun: to(2, 5)}}, 12)
	return b
}

// wrongBooks are books that are not valid.
func wrongBooks() map[string]api.SlopeBook {
	list := map[string]api.SlopeBook{
		"nothing":                      {},
		"no hours":                     changed(func(b *api.SlopeBook) { b.Hours = nil }),
		"no hours, but a list":         changed(func(b *api.SlopeBook) { b.Hours = []api.SlopeHour{} }),
		"thirteen hours":               changed(func(b *api.SlopeBook) { b.Hours = make([]api.SlopeHour, 13) }),
		"far too many hours":           changed(func(b *api.SlopeBook) { b.Hours = make([]api.SlopeHour, 1<<16) }),
		"seven sights":                 book(slices.Repeat([]api.SlopeSight{stayed(1, 39, 60)}, 7)...),
		"far too many sights":          book(make([]api.SlopeSight, 1<<16)...),
		"a wrong hour behind good":     changed(func(b *api.SlopeBook) { b.Hours[3].New = to(0, 4) }),
		"a wrong sight behind good":    book(stayed(0, 0, 60), stayed(1, 0, 60), stayed(4, 0, 60)),
		"a wrong sight, and false":     book(fell(0, 0, 2000), stayed(0, 0, 2000), stayed(0, 0, 2001)),
		"a sight of no hour, far away": book(stayed(math.MaxInt, 0, 60)),
		"a sight before all hours":     book(stayed(math.MinInt, 0, 60)),
		"a sight behind the last hour": book(stayed(4, 0, 60)),
		"a sight before the first one": book(stayed(-1, 0, 60)),
	}
	numbers := map[string]func(b *api.SlopeBook) *int{
		"Snow":   func(b *api.SlopeBook) *int { return &b.Slope.Snow },
		"Wind":   func(b *api.SlopeBook) *int { return &b.Slope.Wind },
		"Sun":    func(b *api.SlopeBook) *int { return &b.Slope.Sun },
		"Settle": func(b *api.SlopeBook) *int { return &b.Slope.Settle },
		"Hold":   func(b *api.SlopeBook) *int { return &b.Slope.Hold },
	}
	most := map[string]int{"Snow": 5, "Wind": 5, "Sun": 5, "Settle": 30, "Hold": 300}
	for what, number := range numbers {
		wrong := []int{-1, most[what] + 1, math.MinInt, math.MaxInt}
		if what == "Hold" {
			wrong = append(wrong, 0)
		}
		for _, n := range wrong {
			list[fmt.Sprint(what, " ", n)] = changed(func(b *api.SlopeBook) { *number(b) = n })
		}
	}
	for what, s := range spans() {
		wrong := []api.Span{to(-1, 0), to(s.most, s.most+1), to(2, 1), to(math.MinInt, math.MaxInt), to(math.MaxInt, math.MinInt), at(math.MinInt), at(math.MaxInt)}
		if s.narrow {
			wrong = append(wrong, to(0, 4), to(1, 5))
		}
		for _, known := range wrong {
			list[fmt.Sprint(what, " ", known)] = changed(func(b *api.SlopeBook) { *s.of(b) = known })
		}
	}
	return list
}

// known is a span of a book: where it is, the most that can be in it, and whether it must be narrow.
type known struct {
	of     func(b *api.SlopeBook) *api.Span
	most   int
	narrow bool
}

// spans are all kinds of spans of a book.
func spans() map[string]known {
	return map[string]known{
		"Start": {func(b *api.SlopeBook) *api.Span { return &b.Start }, 300, false},
		"New":   {func(b *api.SlopeBook) *api.Span { return &b.Hours[1].New }, 9, true},
		"wind":  {func(b *api.SlopeBook) *api.Span { return &b.Hours[2].Wind }, 5, true},
		"sun":   {func(b *api.SlopeBook) *api.Span { return &b.Hours[0].Sun }, 5, true},
		"Load": {func(b *api.SlopeBook) *api.Span {
			b.Sights = []api.SlopeSight{{Hour: 1}}
			return &b.Sights[0].Load
		}, 2000, false},
	}
}

// want reports what a call returned, if it is not what was to be.
func want[T comparable](t *testing.T, call string, got T, e api.Errno, must T, code api.Errno) {
	t.Helper()
	if got != must || e != code {
		t.Errorf("%s: %v, error %d; not %v, error %d", call, got, e, must, code)
	}
}

// wantList does the same with lists.
func wantList[T comparable](t *testing.T, call string, got []T, e api.Errno, must []T, code api.Errno) {
	t.Helper()
	if !slices.Equal(got, must) || e != code {
		t.Errorf("%s: %v, error %d; not %v, error %d", call, got, e, must, code)
	}
}

// P3.1, R7: what is valid, up to its ends.
func TestCheckValid(t *testing.T) {
	good := map[string]api.SlopeBook{
		"the book of the chapter": book(),
		"one that is false":       falseBook(),
		"the widest one":          widest(),
		"one hour, and all 0":     {Slope: api.SlopeSlope{Hold: 1}, Hours: make([]api.SlopeHour, 1)},
		"all as great as can be": {
			Slope:  api.SlopeSlope{Snow: 5, Wind: 5, Sun: 5, Settle: 30, Hold: 300},
			Start:  at(300),
			Hours:  slices.Repeat([]api.SlopeHour{{New: at(9), Wind: at(5), Sun: at(5)}}, 12),
			Sights: slices.Repeat([]api.SlopeSight{fell(11, 2000, 2000)}, 6),
		},
		"no sights, but a list": book([]api.SlopeSight{}...),
	}
	for what, s := range spans() {
		wide := to(0, s.most)
		if s.narrow {
			wide = to(0, 3)
		}
		for _, known := range []api.Span{at(0), at(s.most), to(s.most-3, s.most), wide} {
			good[fmt.Sprint(what, " ", known)] = changed(func(b *api.SlopeBook) { *s.of(b) = known })
		}
	}
	for what, b := range good {
		if e := slope.Check(b); e != api.OK {
			t.Errorf("%s: error %d", what, e)
		}
	}
}

// P3.1 to P3.6, P1, R1, R2: a book that is not valid is the first error of all functions, with nothing else, whatever is asked.
func TestWrongBook(t *testing.T) {
	const e = api.ErrSlope
	for what, b := range wrongBooks() {
		if got := slope.Check(b); got != e {
			t.Errorf("Check, %s: error %d", what, got)
		}
		is, got := slope.Right(b)
		want(t, "Right, "+what, is, got, false, e)
		list, got := slope.Free(b)
		wantList(t, "Free, "+what, list, got, nil, e)
		span, got := slope.Falls(b)
		want(t, "Falls, "+what, span, got, api.Span{}, e)
		list, got = slope.Wrong(b)
		wantList(t, "Wrong, "+what, list, got, nil, e)
		for _, hour := range []int{0, 1, -1, 4, 12, 13, math.MinInt, math.MaxInt} {
			span, got := slope.Load(b, hour)
			want(t, "Load, "+what, span, got, api.Span{}, e)
			is, got := slope.Safe(b, hour)
			want(t, "Safe, "+what, is, got, false, e)
			n, got := slope.Until(b, hour)
			want(t, "Until, "+what, n, got, 0, e)
			for _, long := range []int{0, 1, 12, 13} {
				n, got := slope.Cross(b, hour, long)
				want(t, "Cross, "+what, n, got, 0, e)
			}
		}
	}
}

// P3.2 to P3.4, P1, R1, R2: a wrong question is the next error, also where the book is false.
func TestWrongQuestion(t *testing.T) {
	const e = api.ErrSlopeAsk
	for what, b := range map[string]api.SlopeBook{"true": book(), "false": falseBook()} {
		for _, hour := range []int{-1, 4, 12, math.MinInt, math.MaxInt} {
			call := fmt.Sprintf("%s, in %d: ", what, hour)
			span, got := slope.Load(b, hour)
			want(t, call+"Load", span, got, api.Span{}, e)
			is, got := slope.Safe(b, hour)
			want(t, call+"Safe", is, got, false, e)
			n, got := slope.Until(b, hour)
			want(t, call+"Until", n, got, 0, e)
			for _, long := range []int{1, 2, 0, 13} {
				n, got := slope.Cross(b, hour, long)
				want(t, call+"Cross", n, got, 0, e)
			}
		}
		for _, long := range []int{0, 13, -1, math.MinInt, math.MaxInt} {
			for from := range 4 {
				n, got := slope.Cross(b, from, long)
				want(t, fmt.Sprintf("%s: Cross from %d for %d", what, from, long), n, got, 0, e)
			}
		}
	}
}

// P3.2 to P3.5, R1, R2: of a book that cannot be true nothing is told but that.
func TestFalseBook(t *testing.T) {
	const e = api.ErrSlopeFalse
	for what, b := range map[string]api.SlopeBook{
		"of the chapter":         falseBook(),
		"a load that never is":   book(stayed(0, 45, 2000)),
		"a load that is less":    book(stayed(0, 0, 29)),
		"the last hour alone":    book(stayed(3, 67, 2000)),
		"no fall with this load": book(fell(1, 39, 60)),
		"both in one hour":       book(fell(1, 0, 2000), stayed(1, 0, 2000)),
		"two loads in one hour":  book(stayed(1, 39, 45), stayed(1, 46, 60)),
		"a sum that is not":      with(snowy(9, at(0), to(1, 2)), stayed(0, 0, 0)),
	} {
		is, got := slope.Right(b)
		want(t, what+": Right", is, got, false, api.OK)
		list, got := slope.Free(b)
		wantList(t, what+": Free", list, got, nil, e)
		span, got := slope.Falls(b)
		want(t, what+": Falls", span, got, api.Span{}, e)
		for hour := range b.Hours {
			span, got := slope.Load(b, hour)
			want(t, what+": Load", span, got, api.Span{}, e)
			is, got := slope.Safe(b, hour)
			want(t, what+": Safe", is, got, false, e)
			n, got := slope.Until(b, hour)
			want(t, what+": Until", n, got, 0, e)
			for _, long := range []int{1, 2, 12} {
				n, got := slope.Cross(b, hour, long)
				want(t, what+": Cross", n, got, 0, e)
			}
		}
	}
}

// P3.1, P3.2, P3.5: the loads of each hour, which are safe, and how often the slope lets go.
func TestTold(t *testing.T) {
	heavy := book()
	heavy.Slope = api.SlopeSlope{Settle: 30, Hold: 9}
	heavy.Start = to(20, 50)
	for what, x := range map[string]struct {
		b api.SlopeBook
		told
	}{
		"the book":         {book(), told{[]api.Span{to(30, 44), to(39, 65), to(6, 71), to(0, 66)}, []int{0}, to(0, 1)}},
		"it stayed":        {book(stayed(1, 39, 60)), told{[]api.Span{to(30, 44), to(39, 60), to(40, 66), to(0, 61)}, []int{0, 1}, to(0, 1)}},
		"it fell":          {book(fell(1, 0, 2000)), told{[]api.Span{to(40, 44), to(61, 65), to(6, 11), to(1, 6)}, []int{0, 2, 3}, at(1)}},
		"a nil list":       {with(book(), nil...), told{[]api.Span{to(30, 44), to(39, 65), to(6, 71), to(0, 66)}, []int{0}, to(0, 1)}},
		"an empty list":    {with(book(), []api.SlopeSight{}...), told{[]api.Span{to(30, 44), to(39, 65), to(6, 71), to(0, 66)}, []int{0}, to(0, 1)}},
		"seen in the end":  {book(stayed(3, 0, 6)), told{[]api.Span{to(34, 44), to(55, 65), to(6, 71), to(0, 6)}, []int{0, 3}, at(1)}},
		"two sights of it": {book(stayed(1, 39, 60), stayed(1, 58, 2000)), told{[]api.Span{to(37, 43), to(58, 60), to(59, 66), to(0, 61)}, []int{0, 1}, to(0, 1)}},
		"each hour lets go": {snowy(3, at(0), at(4), at(4), at(4)), told{
			[]api.Span{at(4), to(4, 8), to(4, 12)}, nil, to(0, 3)}},
		"just what it holds": {snowy(4, at(0), at(4), at(4), at(0)), told{
			[]api.Span{at(4), at(8), to(0, 8)}, []int{0}, to(0, 1)}},
		"held in two hours": {snowy(8, at(0), at(4), at(4)), told{[]api.Span{at(4), at(8)}, []int{0, 1}, at(0)}},
		"it settles away":   {heavy, told{[]api.Span{to(0, 20), at(0), at(0), at(0)}, []int{1, 2, 3}, to(0, 1)}},
		"a load above all that it holds": {with(snowy(300, at(300), at(9), at(9)), fell(1, 0, 2000)), told{
			[]api.Span{at(309), at(318)}, nil, at(1)}},
		"it fell in both": {with(snowy(3, at(0), at(4), at(4)), fell(0, 0, 2000), fell(1, 0, 2000)), told{
			[]api.Span{at(4), at(4)}, nil, at(2)}},
		"what is seen later tells of before": {with(snowy(50, to(0, 9), to(0, 3), to(0, 3)), stayed(1, 0, 1)), told{
			[]api.Span{to(0, 1), to(0, 1)}, []int{0, 1}, at(0)}},
		"the greatest load that can be": {with(widest(), stayed(11, 1440, 2000)), told{
			[]api.Span{at(395), at(490), at(585), at(680), at(775), at(870), at(965), at(1060), at(1155), at(1250), at(1345), at(1440)}, nil, at(0)}},
	} {
		is, e := slope.Right(x.b)
		want(t, what+": Right", is, e, true, api.OK)
		for hour, must := range x.loads {
			load, e := slope.Load(x.b, hour)
			want(t, fmt.Sprintf("%s: Load in %d", what, hour), load, e, must, api.OK)
			is, e := slope.Safe(x.b, hour)
			want(t, fmt.Sprintf("%s: Safe in %d", what, hour), is, e, slices.Contains(x.free, hour), api.OK)
		}
		free, e := slope.Free(x.b)
		wantList(t, what+": Free", free, e, x.free, api.OK)
		falls, e := slope.Falls(x.b)
		want(t, what+": Falls", falls, e, x.falls, api.OK)
	}
}

// P3.1: each of snow, wind and sun loads as much as is said of it.
func TestWeights(t *testing.T) {
	for i, must := range []int{17, 19, 23} {
		b := api.SlopeBook{Slope: api.SlopeSlope{Snow: 2, Wind: 3, Sun: 5, Settle: 1, Hold: 300}, Start: at(14), Hours: make([]api.SlopeHour, 1)}
		much := []*api.Span{&b.Hours[0].New, &b.Hours[0].Wind, &b.Hours[0].Sun}
		*much[i] = at(2)
		load, e := slope.Load(b, 0)
		want(t, fmt.Sprint("Load of ", i), load, e, at(must), api.OK)
	}
}

// gap is a slope of which the hours 0, 2 and 3 are safe.
func gap() api.SlopeBook { return book(fell(1, 0, 2000)) }

// P3.3: the last hour of those that are safe, from one on.
func TestUntil(t *testing.T) {
	for i, x := range []struct {
		b    api.SlopeBook
		from int
		must int
		e    api.Errno
	}{
		{book(), 0, 0, api.OK},
		{book(), 1, 0, api.ErrNone},
		{book(), 3, 0, api.ErrNone},
		{book(stayed(1, 39, 60)), 0, 1, api.OK},
		{book(stayed(1, 39, 60)), 1, 1, api.OK},
		{gap(), 0, 0, api.OK},
		{gap(), 1, 0, api.ErrNone},
		{gap(), 2, 3, api.OK},
		{gap(), 3, 3, api.OK},
		{book(stayed(0, 30, 30)), 0, 3, api.OK},
		{snowy(300, at(0), slices.Repeat([]api.Span{at(9)}, 12)...), 0, 11, api.OK},
		{snowy(300, at(0), slices.Repeat([]api.Span{at(9)}, 12)...), 11, 11, api.OK},
	} {
		n, e := slope.Until(x.b, x.from)
		want(t, fmt.Sprint("Until ", i), n, e, x.must, x.e)
	}
}

// P3.4: the first hour of enough that are safe, from one on.
func TestCross(t *testing.T) {
	calm := snowy(300, at(0), slices.Repeat([]api.Span{at(9)}, 12)...)
	for i, x := range []struct {
		b          api.SlopeBook
		from, long int
		must       int
		e          api.Errno
	}{
		{book(), 0, 1, 0, api.OK},
		{book(), 0, 2, 0, api.ErrNone},
		{book(), 1, 1, 0, api.ErrNone},
		{book(stayed(1, 39, 60)), 0, 2, 0, api.OK},
		{book(stayed(1, 39, 60)), 1, 1, 1, api.OK},
		{book(stayed(1, 39, 60)), 1, 2, 0, api.ErrNone},
		{gap(), 0, 1, 0, api.OK},
		{gap(), 0, 2, 2, api.OK},
		{gap(), 1, 1, 2, api.OK},
		{gap(), 1, 2, 2, api.OK},
		{gap(), 2, 2, 2, api.OK},
		{gap(), 3, 1, 3, api.OK},
		{gap(), 3, 2, 0, api.ErrNone},
		{gap(), 0, 3, 0, api.ErrNone},
		{gap(), 0, 12, 0, api.ErrNone},
		{calm, 0, 12, 0, api.OK},
		{calm, 1, 11, 1, api.OK},
		{calm, 1, 12, 0, api.ErrNone},
		{calm, 11, 1, 11, api.OK},
	} {
		n, e := slope.Cross(x.b, x.from, x.long)
		want(t, fmt.Sprint("Cross ", i), n, e, x.must, x.e)
	}
}

// P3.6, R6: the fewest sights, of several lists the first one.
func TestWrong(t *testing.T) {
	never := stayed(0, 1999, 2000)
	level := snowy(3, at(0), at(4), at(4), at(4))
	for i, x := range []struct {
		b    api.SlopeBook
		must []int
	}{
		{book(), nil},
		{book(fell(1, 0, 2000)), nil},
		{falseBook(), []int{0}},
		{book(stayed(1, 39, 60), fell(0, 0, 2000)), []int{1}},
		{book(fell(1, 0, 2000), stayed(1, 39, 60)), []int{0}},
		{book(stayed(1, 39, 45), stayed(1, 46, 60), stayed(1, 39, 60)), []int{0}},
		{book(stayed(1, 46, 60), stayed(1, 39, 45), fell(1, 0, 2000), stayed(1, 39, 60)), []int{0, 2}},
		{book(fell(1, 0, 2000), stayed(1, 39, 60), stayed(1, 50, 60)), []int{0}},
		{book(stayed(1, 39, 60), stayed(1, 50, 60), fell(1, 0, 2000)), []int{2}},
		{book(stayed(1, 39, 60), fell(1, 0, 2000), stayed(2, 0, 11)), []int{0}},
		{with(level, fell(0, 0, 9), fell(1, 0, 9), stayed(1, 0, 99), stayed(0, 0, 99)), []int{0, 1}},
		{with(level, fell(0, 0, 9), stayed(1, 0, 99), fell(1, 0, 9), stayed(0, 0, 99)), []int{0, 1}},
		{with(level, stayed(0, 0, 99), fell(1, 0, 9), fell(1, 0, 9), stayed(1, 0, 99), fell(0, 0, 9), fell(0, 0, 9)), []int{0, 3}},
		{with(level, stayed(0, 5, 9), stayed(1, 5, 9), fell(2, 5, 99), fell(0, 5, 9)), []int{0, 3}},
		// either of both pairs would do
		{with(level, stayed(0, 0, 9), fell(0, 0, 9), fell(0, 0, 9), stayed(0, 0, 9)), []int{0, 3}},
		{with(level, stayed(1, 0, 9), stayed(2, 0, 99), fell(2, 0, 99), fell(1, 0, 9)), []int{0, 1}},
		{book(slices.Repeat([]api.SlopeSight{never}, 6)...), []int{0, 1, 2, 3, 4, 5}},
		{book(never, stayed(1, 39, 60), never, stayed(2, 0, 2000)), []int{0, 2}},
	} {
		list, e := slope.Wrong(x.b)
		wantList(t, fmt.Sprint("Wrong ", i), list, e, x.must, api.OK)
		is, e := slope.Right(x.b)
		want(t, fmt.Sprint("Right ", i), is, e, len(x.must) == 0, api.OK)
	}
}

// What the limits and errors of package api are.
func TestGiven(t *testing.T) {
	given := []int{api.SlopeHours, api.SlopeSights, api.SlopeWeight, api.SlopeHold, api.SlopeSettle, api.SlopeNew, api.SlopeForce, api.SlopeSpan, api.SlopeLoad}
	codes := []api.Errno{api.ErrNone, api.ErrSlope, api.ErrSlopeAsk, api.ErrSlopeFalse}
	if !slices.Equal(given, []int{12, 6, 5, 300, 30, 9, 5, 3, 2000}) || !slices.Equal(codes, []api.Errno{4, 30, 31, 32}) {
		t.Error("package api is not as it was given")
	}
}
