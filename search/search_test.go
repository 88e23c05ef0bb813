package search_test

import (
	"fmt"
	"math"
	"slices"
	"testing"

	"clavendier/api"
	"clavendier/search"
)

func to(low, high int) api.Span { return api.Span{Low: low, High: high} }

func at(n int) api.Span { return to(n, n) }

func round(post, begin int) api.SearchRound { return api.SearchRound{Post: post, Begin: begin} }

func rounds(list ...api.SearchRound) []api.SearchRound { return list }

// flat is a stretch without a slope.
func flat(low, high int) api.SearchStretch {
	return api.SearchStretch{March: to(low, high), Slope: -1}
}

// steep is a stretch with a slope.
func steep(slope, low, high int) api.SearchStretch {
	return api.SearchStretch{March: to(low, high), Slope: slope}
}

// seen is a sight of a traveller at a post.
func seen(post, low, high int) api.TrailSight {
	return api.TrailSight{Post: post, Minutes: to(low, high), Seen: true}
}

// away is a sight that says that a traveller was not there.
func away(post, low, high int) api.TrailSight {
	return api.TrailSight{Post: post, Minutes: to(low, high)}
}

// loaded is the slope of the chapter on slopes, with the sight that it did not let go in the hour 1.
func loaded() api.SlopeBook {
	return api.SlopeBook{
		Slope: api.SlopeSlope{Snow: 4, Wind: 3, Sun: 2, Settle: 5, Hold: 60},
		Start: to(20, 30),
		Hours: []api.SlopeHour{
			{New: to(3, 4), Wind: at(1)},
			{New: to(2, 5), Wind: at(2)},
			{Wind: to(0, 1), Sun: to(3, 4)},
			{},
		},
		Sights: []api.SlopeSight{{Hour: 1, Load: to(39, 60)}},
	}
}

// falseSlope is a slope with sights that cannot all be right.
func falseSlope() api.SlopeBook {
	b := loaded()
	b.Sights = append(b.Sights, api.SlopeSight{Hour: 0, Fell: true, Load: to(0, 2000)})
	return b
}

// pattern is a slope that is safe in just these of its hours.
func pattern(safe ...bool) api.SlopeBook {
	b := api.SlopeBook{Slope: api.SlopeSlope{Snow: 1, Settle: 30, Hold: 5}}
	for _, is := range safe {
		h := api.SlopeHour{New: at(9)}
		if is {
			h.New = at(0)
		}
		b.Hours = append(b.Hours, h)
	}
	return b
}

// traveller is the trail of the chapter on trails.
func traveller() api.TrailBook {
	return api.TrailBook{
		Stretches: []api.TrailStretch{
			{Walk: to(30, 40), Rest: to(0, 5)},
			{Walk: to(60, 90), Rest: to(0, 20), Shut: []api.Span{to(540, 600)}},
			{Walk: to(20, 30), Rest: to(0, 10)},
		},
		Start:  to(480, 490),
		Sights: []api.TrailSight{seen(1, 515, 525), away(2, 590, 610)},
	}
}

// book is the book of the chapter, changed.
func book(changes ...func(b *api.SearchBook)) api.SearchBook {
	b := api.SearchBook{
		Stretches: []api.SearchStretch{flat(30, 40), steep(0, 25, 29), flat(20, 25)},
		House:     2,
		Slopes:    []api.SlopeBook{loaded()},
		Now:       600, Dark: 1000, Live: 100, Parties: 1,
		Travellers: []api.SearchTraveller{{Trail: traveller()}},
	}
	for _, change := range changes {
		change(&b)
	}
	return b
}

func live(n int) func(b *api.SearchBook) { return func(b *api.SearchBook) { b.Live = n } }

func dark(n int) func(b *api.SearchBook) { return func(b *api.SearchBook) { b.Dark = n } }

func now(n int) func(b *api.SearchBook) { return func(b *api.SearchBook) { b.Now = n } }

func house(n int) func(b *api.SearchBook) { return func(b *api.SearchBook) { b.House = n } }

func parties(n int) func(b *api.SearchBook) { return func(b *api.SearchBook) { b.Parties = n } }

func down(b *api.SearchBook) { b.Travellers[0].Down = true }

func slopes(list ...api.SlopeBook) func(b *api.SearchBook) {
	return func(b *api.SearchBook) { b.Slopes = list }
}

func stretches(list ...api.SearchStretch) func(b *api.SearchBook) {
	return func(b *api.SearchBook) { b.Stretches = list }
}

// exact is a trail on which nothing is unknown: nobody rests, and each stretch is walked in these minutes.
func exact(start int, walks ...int) api.TrailBook {
	b := api.TrailBook{Start: at(start)}
	for _, n := range walks {
		b.Stretches = append(b.Stretches, api.TrailStretch{Walk: at(n)})
	}
	return b
}

// lost is a trail on a stretch of which the traveller stayed; the stretch is left in the minute of its number.
func lost(n, of int) api.SearchTraveller {
	t := exact(0, slices.Repeat([]int{1}, of)...)
	t.Sights = []api.TrailSight{seen(n, 0, 4000), away(n+1, 0, 4000)}
	return api.SearchTraveller{Trail: t}
}

// searching is a book with these marches, each known, of which these stretches must be searched; it is the minute 100, and dark late.
func searching(house int, marches, wanted []int, changes ...func(b *api.SearchBook)) api.SearchBook {
	b := api.SearchBook{House: house, Now: 100, Dark: 1439, Live: 4000, Parties: 1}
	for _, n := range marches {
		b.Stretches = append(b.Stretches, flat(n, n))
	}
	for _, n := range wanted {
		b.Travellers = append(b.Travellers, lost(n, len(marches)))
	}
	for _, change := range changes {
		change(&b)
	}
	return b
}

// on makes a slope cross a stretch.
func on(stretch int, s api.SlopeBook) func(b *api.SearchBook) {
	return func(b *api.SearchBook) {
		b.Stretches = slices.Clone(b.Stretches)
		b.Stretches[stretch].Slope = len(b.Slopes)
		b.Slopes = slices.Concat(b.Slopes, []api.SlopeBook{s})
	}
}

// widest is a book in which everything is as wide, and as many, as can be.
func widest(parties int) api.SearchBook {
	s := api.SlopeBook{Slope: api.SlopeSlope{Snow: 5, Wind: 5, Sun: 5, Settle: 3, Hold: 300}, Start: to(0, 300)}
	for range 12 {
		s.Hours = append(s.Hours, api.SlopeHour{New: to(0, 3), Wind: to(0, 3), Sun: to(0, 3)})
	}
	x := api.TrailStretch{Walk: to(1, 240), Rest: to(0, 120), Shut: []api.Span{to(0, 0), to(2, 2), to(4, 20)}}
	t := api.TrailBook{Stretches: slices.Repeat([]api.TrailStretch{x}, 6), Start: to(0, 1439)}
	b := api.SearchBook{House: 3, Slopes: []api.SlopeBook{s, s}, Dark: 1439, Live: 4000, Parties: parties}
	for i := range 6 {
		b.Stretches = append(b.Stretches, steep(i%2, 1, 240))
	}
	for range 3 {
		b.Travellers = append(b.Travellers, api.SearchTraveller{Trail: t, Down: true})
	}
	return b
}

// number is a number of a book: where it is, and what it can be.
type number struct {
	of          func(b *api.SearchBook) *int
	least, most int
}

// numbers are all kinds of numbers of the book of the chapter.
func numbers() map[string]number {
	return map[string]number{
		"House":   {func(b *api.SearchBook) *int { return &b.House }, 0, 3},
		"Now":     {func(b *api.SearchBook) *int { return &b.Now }, 0, 1000},
		"Dark":    {func(b *api.SearchBook) *int { return &b.Dark }, 600, 1439},
		"Live":    {func(b *api.SearchBook) *int { return &b.Live }, 0, 4000},
		"Parties": {func(b *api.SearchBook) *int { return &b.Parties }, 1, 2},
		"Slope":   {func(b *api.SearchBook) *int { return &b.Stretches[2].Slope }, -1, 0},
	}
}

// set is a change of a number.
func (n number) set(value int) func(b *api.SearchBook) {
	return func(b *api.SearchBook) { *n.of(b) = value }
}

// marched is a change of what a stretch takes.
func marched(s api.Span) func(b *api.SearchBook) {
	return func(b *api.SearchBook) { b.Stretches[2].March = s }
}

// trailed is a change of what is known of the traveller.
func trailed(t api.TrailBook) func(b *api.SearchBook) {
	return func(b *api.SearchBook) { b.Travellers[0].Trail = t }
}

// travellers is a change of who is missed: all of the same trail.
func travellers(n int) func(b *api.SearchBook) {
	return func(b *api.SearchBook) {
		b.Travellers = slices.Repeat([]api.SearchTraveller{{Trail: traveller()}}, n)
	}
}

// wrongBooks are books that are not valid.
func wrongBooks() map[string]api.SearchBook {
	changed := map[string]func(b *api.SearchBook){
		"nothing":                     func(b *api.SearchBook) { *b = api.SearchBook{} },
		"no stretches":                func(b *api.SearchBook) { b.Stretches, b.House, b.Travellers = nil, 0, nil },
		"no stretches, but a list":    func(b *api.SearchBook) { b.Stretches, b.House, b.Travellers = []api.SearchStretch{}, 0, nil },
		"seven stretches":             func(b *api.SearchBook) { b.Stretches, b.Travellers = slices.Repeat(b.Stretches, 3)[:7], nil },
		"far too many stretches":      func(b *api.SearchBook) { b.Stretches, b.Travellers = make([]api.SearchStretch, 1<<16), nil },
		"a slope of none":             slopes(),
		"three slopes":                slopes(loaded(), loaded(), loaded()),
		"far too many slopes":         slopes(make([]api.SlopeBook, 1<<16)...),
		"a slope that is nothing":     slopes(api.SlopeBook{}),
		"a slope that is false":       slopes(falseSlope()),
		"a second one that is wrong":  slopes(loaded(), api.SlopeBook{}),
		"a second one that is false":  slopes(loaded(), falseSlope()),
		"the first stretch":           func(b *api.SearchBook) { b.Stretches[0].March = to(0, 5) },
		"a slope of the first one":    func(b *api.SearchBook) { b.Stretches[0].Slope = 1 },
		"dark before now":             func(b *api.SearchBook) { b.Now, b.Dark = 601, 600 },
		"four travellers":             travellers(4),
		"far too many travellers":     travellers(1 << 16),
		"a traveller that is nothing": trailed(api.TrailBook{}),
		"a second one that is wrong too": func(b *api.SearchBook) {
			travellers(2)(b)
			b.Travellers[1].Trail = api.TrailBook{}
		},
		"a trail without a truth": func(b *api.SearchBook) { b.Travellers[0].Trail.Sights[1] = seen(0, 0, 400) },
		"a third trail without a truth": func(b *api.SearchBook) {
			travellers(3)(b)
			b.Travellers[2].Trail.Sights = []api.TrailSight{seen(0, 0, 400)}
		},
		"a trail that is not valid":        func(b *api.SearchBook) { b.Travellers[0].Trail.Stretches[1].Walk = to(0, 1) },
		"a trail with fewer stretches":     trailed(exact(500, 1, 2)),
		"a trail with more stretches":      trailed(exact(500, 1, 2, 3, 4)),
		"a later trail with one fewer":     func(b *api.SearchBook) { b.Travellers = append(b.Travellers, lost(0, 2)) },
		"minutes far apart":                func(b *api.SearchBook) { b.Now, b.Dark = math.MinInt, math.MaxInt },
		"minutes far apart, the other way": func(b *api.SearchBook) { b.Now, b.Dark = math.MaxInt, math.MinInt },
		"now before the day, and nobody":   func(b *api.SearchBook) { b.Now, b.Travellers = -1, nil },
		"now long before, and nobody":      func(b *api.SearchBook) { b.Now, b.Travellers = math.MinInt, nil },
		"minutes before the day":           func(b *api.SearchBook) { b.Now, b.Dark = -2, -1 },
		"minutes of the next day":          func(b *api.SearchBook) { b.Now, b.Dark = 1440, 1441 },
	}
	for what, n := range numbers() {
		for _, value := range []int{n.least - 1, n.most + 1, math.MinInt, math.MaxInt} {
			changed[fmt.Sprint(what, " ", value)] = n.set(value)
		}
	}
	for _, s := range []api.Span{to(0, 5), at(0), to(240, 241), at(241), to(6, 5), to(-1, 5), to(math.MinInt, math.MaxInt), to(math.MaxInt, math.MinInt), at(math.MinInt), at(math.MaxInt)} {
		changed[fmt.Sprint("March ", s)] = marched(s)
	}
	list := map[string]api.SearchBook{}
	for what, change := range changed {
		list[what] = book(change)
	}
	return list
}

// want reports what a call returned, if it is not what was to be.
func want[T comparable](t *testing.T, call string, got T, e api.Errno, must T, code api.Errno) {
	t.Helper()
	if got != must || e != code {
		t.Errorf("%s: %v, error %d; not %v, error %d", call, got, e, must, code)
	}
}

// wantList does the same with lists.
func wantList[T comparable](t *testing.T, call string, got []T, e api.Errno, must []T, code api.Errno) {
	t.Helper()
	if !slices.Equal(got, must) || e != code {
		t.Errorf("%s: %v, error %d; not %v, error %d", call, got, e, must, code)
	}
}

// P7.1, R3, R7: what is valid, up to its ends.
func TestCheckValid(t *testing.T) {
	good := map[string]api.SearchBook{
		"the book of the chapter":  book(),
		"the widest one":           widest(1),
		"the widest one, with two": widest(2),
		"no slopes":                book(stretches(flat(1, 1), flat(1, 2), flat(1, 3)), slopes()),
		"no slopes, but a list":    book(stretches(flat(1, 1), flat(1, 2), flat(1, 3)), slopes([]api.SlopeBook{}...)),
		"a slope on no stretch":    book(stretches(flat(1, 1), flat(1, 2), flat(1, 3))),
		"a slope on all stretches": book(stretches(steep(0, 1, 1), steep(0, 1, 2), steep(0, 1, 3))),
		"the second of two slopes": book(stretches(flat(1, 1), steep(1, 1, 2), flat(1, 3)), slopes(pattern(false), loaded())),
		"no travellers":            book(travellers(0)),
		"no travellers, nil":       book(func(b *api.SearchBook) { b.Travellers = nil }),
		"three travellers":         book(travellers(3)),
		"a traveller of tomorrow":  book(trailed(exact(1439, 240, 240, 240)), now(0)),
		"one stretch":              book(stretches(flat(1, 240)), house(1), travellers(0)),
		"now as late as dark":      book(now(1000)),
		"the whole day":            book(now(0), dark(1439)),
		"the first minute":         book(now(0), dark(0)),
		"the last minute":          book(now(1439), dark(1439)),
	}
	for what, n := range numbers() {
		good[fmt.Sprint(what, " ", n.least)] = book(n.set(n.least))
		good[fmt.Sprint(what, " ", n.most)] = book(n.set(n.most))
	}
	for _, s := range []api.Span{at(1), at(240), to(1, 240)} {
		good[fmt.Sprint("March ", s)] = book(marched(s))
	}
	for what, b := range good {
		if e := search.Check(b); e != api.OK {
			t.Errorf("%s: error %d", what, e)
		}
	}
}

// P7.1 to P7.6, P1, R1, R2: a book that is not valid is the first error of all functions, with nothing else, whatever is asked.
func TestWrongBook(t *testing.T) {
	const e = api.ErrSearch
	for what, b := range wrongBooks() {
		if got := search.Check(b); got != e {
			t.Errorf("Check, %s: error %d", what, got)
		}
		list, got := search.Wanted(b)
		wantList(t, "Wanted, "+what, list, got, nil, e)
		list, got = search.Missed(b)
		wantList(t, "Missed, "+what, list, got, nil, e)
		s, got := search.Reach(b)
		want(t, "Reach, "+what, s, got, api.Span{}, e)
		all, got := search.Search(b)
		wantList(t, "Search, "+what, all, got, nil, e)
		for _, n := range []int{0, 1, 2, 3, -1, 600, math.MinInt, math.MaxInt} {
			s, got := search.Round(b, n)
			want(t, "Round, "+what, s, got, api.Span{}, e)
			minute, got := search.Last(b, n)
			want(t, "Last, "+what, minute, got, 0, e)
			for _, m := range []int{600, 1000, n} {
				why, got := search.Why(b, n, m)
				want(t, "Why, "+what, why, got, 0, e)
				minute, got := search.First(b, n, m)
				want(t, "First, "+what, minute, got, 0, e)
			}
		}
	}
}

// P7.2, P7.3, P1, R1, R2: wrong questions, before anything else of the book is told.
func TestWrongQuestions(t *testing.T) {
	const e = api.ErrSearchAsk
	wrong := func(call string, b api.SearchBook, post, minute int) {
		t.Helper()
		call = fmt.Sprintf("%s: %d, %d", call, post, minute)
		why, got := search.Why(b, post, minute)
		want(t, call+": Why", why, got, 0, e)
		first, got := search.First(b, post, minute)
		want(t, call+": First", first, got, 0, e)
	}
	for what, b := range map[string]api.SearchBook{"the book": book(), "too dark for all": book(dark(600)), "from 0 to 1439": book(now(0), dark(1439))} {
		for _, post := range []int{-1, 2, 4, 600, math.MinInt, math.MaxInt} {
			s, got := search.Round(b, post)
			want(t, fmt.Sprint(what, ": Round to ", post), s, got, api.Span{}, e)
			last, got := search.Last(b, post)
			want(t, fmt.Sprint(what, ": Last to ", post), last, got, 0, e)
			for _, minute := range []int{b.Now, b.Dark, b.Now - 1} {
				wrong(what, b, post, minute)
			}
		}
		for _, post := range []int{0, 1, 3, 2} {
			for _, minute := range []int{b.Now - 1, b.Dark + 1, math.MinInt, math.MaxInt} {
				wrong(what, b, post, minute)
			}
		}
	}
	for _, b := range []api.SearchBook{book(house(0)), book(house(1)), book(house(3))} {
		wrong("another house", b, b.House, 700)
		s, got := search.Round(b, b.House)
		want(t, fmt.Sprint("Round to the house ", b.House), s, got, api.Span{}, e)
	}
}

// P7.1 to P7.6: the examples of the chapter.
func TestExamples(t *testing.T) {
	for n, must := range map[int][]int{100: {1, 2}, 60: {2}, 10: nil} {
		list, e := search.Wanted(book(live(n)))
		wantList(t, fmt.Sprint("Wanted with Live ", n), list, e, must, api.OK)
	}
	for post, must := range map[int]api.Span{0: to(110, 138), 1: to(50, 58), 3: to(40, 50)} {
		s, e := search.Round(book(), post)
		want(t, fmt.Sprint("Round to ", post), s, e, must, api.OK)
	}
	for r, must := range map[api.SearchRound]int{round(1, 600): 0, round(1, 661): 0, round(1, 662): 1, round(3, 951): 2, round(0, 600): 1} {
		why, e := search.Why(book(), r.Post, r.Begin)
		want(t, fmt.Sprint("Why ", r), why, e, must, api.OK)
	}
	minute, e := search.First(book(), 1, 600)
	want(t, "First to 1 from 600", minute, e, 600, api.OK)
	minute, e = search.First(book(), 1, 662)
	want(t, "First to 1 from 662", minute, e, 0, api.ErrNone)
	minute, e = search.Last(book(), 1)
	want(t, "Last to 1", minute, e, 661, api.OK)
	minute, e = search.Last(book(), 3)
	want(t, "Last to 3", minute, e, 950, api.OK)
	minute, e = search.Last(book(), 0)
	want(t, "Last to 0", minute, e, 0, api.ErrNone)
	wantReach(t, "the book", book(), to(1, 3), nil)
	wantReach(t, "with Dark 620", book(dark(620)), at(2), []int{1, 2})
	wantSearch(t, "the book", book(), rounds(round(1, 600), round(3, 658)), api.OK)
	wantSearch(t, "with two parties", book(parties(2)), rounds(round(1, 600), round(3, 600)), api.OK)
	wantSearch(t, "with Live 60", book(live(60)), rounds(round(3, 600)), api.OK)
	wantSearch(t, "with Dark 620", book(dark(620)), nil, api.ErrNone)
}

// P7.2, P7.3: the example of the document: a round is over before a slope may let go.
func TestExampleOfDocument(t *testing.T) {
	b := book(stretches(steep(0, 25, 29)), slopes(pattern(true, false)), house(0), travellers(0))
	s, e := search.Round(b, 1)
	want(t, "Round", s, e, to(50, 58), api.OK)
	last, e := search.Last(b, 1)
	want(t, "Last", last, e, 601, api.OK)
	why, e := search.Why(b, 1, 602)
	want(t, "Why", why, e, api.SearchSlope, api.OK)
}

// wantReach compares what Reach and Missed return.
func wantReach(t *testing.T, what string, b api.SearchBook, reach api.Span, missed []int) {
	t.Helper()
	s, e := search.Reach(b)
	want(t, what+": Reach", s, e, reach, api.OK)
	list, e := search.Missed(b)
	wantList(t, what+": Missed", list, e, missed, api.OK)
}

// wantSearch compares what Search returns.
func wantSearch(t *testing.T, what string, b api.SearchBook, must []api.SearchRound, code api.Errno) {
	t.Helper()
	list, e := search.Search(b)
	wantList(t, what+": Search", list, e, must, code)
}

// P7.1: on which stretches somebody who can live can be.
func TestWanted(t *testing.T) {
	two := func(minute, live int, down bool, sights ...api.TrailSight) api.SearchBook {
		trail := exact(100, 10, 20)
		trail.Sights = sights
		return api.SearchBook{
			Stretches: []api.SearchStretch{flat(1, 1), flat(1, 1)},
			Now:       minute, Dark: 1439, Live: live, Parties: 1,
			Travellers: []api.SearchTraveller{{Trail: trail, Down: down}},
		}
	}
	for what, x := range map[string]struct {
		b    api.SearchBook
		must []int
	}{
		"nobody":                            {book(travellers(0)), nil},
		"before the trail":                  {two(99, 4000, false), nil},
		"at the first post":                 {two(100, 4000, false), nil},
		"just set out":                      {two(101, 1, false), []int{0}},
		"just set out, nobody can live":     {two(101, 0, false), nil},
		"just set out, down":                {two(101, 1, true), []int{1}},
		"five minutes out":                  {two(105, 5, false), []int{0}},
		"one minute too long out":           {two(105, 4, false), nil},
		"stayed, or at the post":            {two(110, 10, false), []int{0}},
		"stayed too long, or at the post":   {two(110, 9, false), nil},
		"on the second one":                 {two(111, 1, false), []int{1}},
		"on the second one, down":           {two(111, 1, true), []int{0}},
		"on either":                         {two(111, 11, false), []int{0, 1}},
		"at the last post, or stayed":       {two(130, 20, false), []int{1}},
		"stayed on either":                  {two(130, 30, false), []int{0, 1}},
		"stayed, almost too long":           {two(130, 29, false), []int{1}},
		"at the last post":                  {two(130, 4000, false, seen(2, 0, 4000)), nil},
		"behind the last post":              {two(1400, 4000, false, seen(2, 130, 130)), nil},
		"surely on the first one":           {two(1000, 900, false, away(1, 0, 4000)), []int{0}},
		"surely on the first one, down":     {two(1000, 900, true, away(1, 0, 4000)), []int{1}},
		"the least number is 61":            {book(live(61)), []int{1, 2}},
		"it is more than 60":                {book(live(60)), []int{2}},
		"the least number is 11":            {book(live(11)), []int{2}},
		"down":                              {book(down), []int{0, 1}},
		"down, with Live 60":                {book(down, live(60)), []int{0}},
		"of several travellers":             {searching(0, []int{9, 9, 9, 9}, []int{3, 0, 2}), []int{0, 2, 3}},
		"of several on one":                 {searching(0, []int{9, 9, 9, 9}, []int{2, 2, 2}), []int{2}},
		"one who can live, one who cannot":  {searching(0, []int{9, 9, 9}, []int{1, 2}, live(98)), []int{2}},
		"of whom one goes down":             {searching(0, []int{9, 9, 9, 9, 9}, []int{1, 1}, down), []int{1, 3}},
		"the stretch in the middle, down":   {searching(0, []int{9, 9, 9}, []int{1}, down), []int{1}},
		"the only one, down":                {searching(1, []int{9}, []int{0}, down), []int{0}},
		"the last one of six, down":         {searching(1, []int{9, 9, 9, 9, 9, 9}, []int{0}, down), []int{5}},
		"the house does not matter":         {book(house(0)), []int{1, 2}},
		"a march and a slope do not matter": {book(stretches(steep(0, 240, 240), steep(0, 240, 240), steep(0, 240, 240)), slopes(pattern(false))), []int{1, 2}},
		"dark does not matter":              {book(dark(600)), []int{1, 2}},
	} {
		list, e := search.Wanted(x.b)
		wantList(t, what+": Wanted", list, e, x.must, api.OK)
	}
}

// P7.2: how long rounds are, from houses everywhere.
func TestRound(t *testing.T) {
	for h, of := range map[int]map[int]api.Span{
		0: {1: to(60, 80), 2: to(110, 138), 3: to(150, 188)},
		1: {0: to(60, 80), 2: to(50, 58), 3: to(90, 108)},
		3: {0: to(150, 188), 1: to(90, 108), 2: to(40, 50)},
	} {
		for post, must := range of {
			s, e := search.Round(book(house(h), dark(600)), post)
			want(t, fmt.Sprintf("Round from %d to %d", h, post), s, e, must, api.OK)
		}
	}
	s, e := search.Round(widest(1), 6)
	want(t, "Round over the widest stretches", s, e, to(6, 1440), api.OK)
	b := book(stretches(slices.Repeat([]api.SearchStretch{flat(240, 240)}, 6)...), house(6), travellers(0))
	s, e = search.Round(b, 0)
	want(t, "Round over six stretches", s, e, at(2880), api.OK)
}

// P7.2, P7.3: in which hours a round can be on a slope, and that it must be safe in all of them.
func TestSlopes(t *testing.T) {
	const T, F = true, false
	slopes := func(list ...api.SlopeBook) []api.SlopeBook { return list }
	one := []api.SearchStretch{steep(0, 10, 10)}
	wide := []api.SearchStretch{steep(0, 10, 40)}
	behind := []api.SearchStretch{flat(5, 25), steep(0, 10, 10)}
	before := []api.SearchStretch{steep(0, 5, 5), flat(50, 50)}
	two := []api.SearchStretch{steep(0, 10, 10), steep(1, 10, 10)}
	same := []api.SearchStretch{steep(0, 10, 10), flat(110, 110), steep(0, 10, 10)}
	fine, not := api.SearchFine, api.SearchSlope
	for what, x := range map[string]struct {
		stretches []api.SearchStretch
		slopes    []api.SlopeBook
		now, post int
		must      map[int]int // when it begins, counted from Now: why not
	}{
		"over in the first hour":             {one, slopes(pattern(T, F)), 0, 1, map[int]int{0: fine, 39: fine, 40: not, 59: not, 60: not}},
		"not before the second hour":         {one, slopes(pattern(F, T, F)), 0, 1, map[int]int{0: not, 59: not, 60: fine, 99: fine, 100: not, 119: not}},
		"the hours are counted from now on":  {one, slopes(pattern(T, F, T)), 37, 1, map[int]int{0: fine, 39: fine, 40: not, 119: not, 120: fine, 159: fine, 160: not}},
		"no hour of the book":                {one, slopes(pattern(T)), 600, 1, map[int]int{39: fine, 40: not, 60: not, 700: not}},
		"twelve hours":                       {one, slopes(pattern(T, T, T, T, T, T, T, T, T, T, T, T)), 1, 1, map[int]int{0: fine, 50: fine, 699: fine, 700: not, 720: not, 1400: not}},
		"the last of twelve":                 {one, slopes(pattern(T, T, T, T, T, T, T, T, T, T, T, F)), 1, 1, map[int]int{639: fine, 640: not}},
		"the first of twelve":                {one, slopes(pattern(F, T, T, T, T, T, T, T, T, T, T, T)), 1, 1, map[int]int{59: not, 60: fine, 699: fine, 700: not}},
		"in no hour":                         {one, slopes(pattern(F, F, F)), 1, 1, map[int]int{0: not, 60: not, 180: not}},
		"if it takes long":                   {wide, slopes(pattern(T, T, F)), 0, 1, map[int]int{0: fine, 39: fine, 40: not}},
		"if it takes longer than an hour":    {wide, slopes(pattern(T, F, T)), 0, 1, map[int]int{0: not, 39: not, 120: not}},
		"behind another one, at the latest":  {behind, slopes(pattern(T, F)), 0, 2, map[int]int{0: fine, 14: fine, 15: not}},
		"behind another one, at the soonest": {behind, slopes(pattern(F, T)), 0, 2, map[int]int{54: not, 55: fine, 74: fine, 75: not}},
		"of the other one does not matter":   {behind, slopes(pattern(F)), 0, 1, map[int]int{0: fine, 100: fine}},
		"out in one hour, back in another":   {before, slopes(pattern(T, F, T)), 0, 2, map[int]int{14: not, 15: fine, 54: fine, 55: not}},
		"out and back at once":               {before, slopes(pattern(T, F, T)), 0, 1, map[int]int{0: fine, 49: fine, 50: not, 119: not, 120: fine}},
		"safe out, and not back":             {before, slopes(pattern(T, F)), 0, 2, map[int]int{0: not, 15: not, 54: not}},
		"safe back, and not out":             {before, slopes(pattern(F, T, T)), 0, 2, map[int]int{0: not, 59: not, 60: fine}},
		"of two slopes the first one":        {two, slopes(pattern(T, F, T), pattern(T, T, T)), 0, 2, map[int]int{19: fine, 20: not, 59: not, 119: not, 120: fine}},
		"of two slopes the second one":       {two, slopes(pattern(T, T, T), pattern(T, F, T)), 0, 2, map[int]int{29: fine, 30: not, 109: not, 110: fine}},
		"of two slopes the nearer one":       {two, slopes(pattern(T, F), pattern(F, F)), 0, 1, map[int]int{39: fine, 40: not}},
		"one slope on two stretches":         {same, slopes(pattern(T, F, T, F, T)), 0, 3, map[int]int{0: fine, 39: fine, 40: not, 60: not}},
		"one slope, not on the farther one":  {same, slopes(pattern(T, F, F, F, T)), 0, 3, map[int]int{0: not, 39: not}},
		"one slope, not on the nearer one":   {same, slopes(pattern(T, F, T, F, F)), 0, 3, map[int]int{0: not, 39: not}},
	} {
		b := api.SearchBook{Stretches: x.stretches, Slopes: x.slopes, Now: x.now, Dark: 1439, Parties: 1}
		mirrored := b
		mirrored.Stretches = slices.Clone(b.Stretches)
		slices.Reverse(mirrored.Stretches)
		mirrored.House = len(b.Stretches)
		for begin, must := range x.must {
			call := fmt.Sprintf("%s: Why at %d", what, begin)
			why, e := search.Why(b, x.post, x.now+begin)
			want(t, call, why, e, must, api.OK)
			why, e = search.Why(mirrored, mirrored.House-x.post, x.now+begin)
			want(t, call+", mirrored", why, e, must, api.OK)
		}
	}
}

// P7.2: a round must be back by dark, and that it is not safe is told first.
func TestDark(t *testing.T) {
	b := book(stretches(flat(10, 20), steep(0, 1, 1), flat(1, 1)), slopes(pattern(true, false)), house(1), dark(700))
	for r, must := range map[api.SearchRound]int{
		round(0, 600): api.SearchFine, round(0, 660): api.SearchFine, round(0, 661): api.SearchDark, round(0, 700): api.SearchDark,
		round(2, 657): api.SearchFine, round(2, 658): api.SearchSlope, round(2, 698): api.SearchSlope, round(2, 699): api.SearchSlope, round(2, 700): api.SearchSlope,
	} {
		why, e := search.Why(b, r.Post, r.Begin)
		want(t, fmt.Sprint("Why ", r), why, e, must, api.OK)
	}
	b = book(stretches(flat(1, 2), flat(1, 1), flat(1, 1)), house(1), now(1439), dark(1439))
	why, e := search.Why(b, 0, 1439)
	want(t, "Why in the last minute", why, e, api.SearchDark, api.OK)
	b = book(stretches(flat(1, 2), flat(1, 1), flat(1, 1)), house(1), now(0), dark(4))
	for begin, must := range []int{api.SearchFine, api.SearchDark, api.SearchDark, api.SearchDark, api.SearchDark} {
		why, e := search.Why(b, 0, begin)
		want(t, fmt.Sprint("Why in the minute ", begin), why, e, must, api.OK)
	}
}

// P7.3: the first and the last minute in which a round can begin, with hours between that are not safe.
func TestFirstAndLast(t *testing.T) {
	b := book(stretches(steep(0, 10, 10), flat(2, 3), flat(5, 5)), slopes(pattern(true, false, true, false, true)), house(0), now(0), dark(250), travellers(0))
	for from, must := range map[int]int{0: 0, 20: 20, 39: 39, 40: 120, 60: 120, 119: 120, 120: 120, 121: 121, 159: 159} {
		first, e := search.First(b, 1, from)
		want(t, fmt.Sprint("First to 1 from ", from), first, e, must, api.OK)
	}
	for _, from := range []int{160, 161, 229, 231, 250} {
		first, e := search.First(b, 1, from)
		want(t, fmt.Sprint("First to 1 from ", from), first, e, 0, api.ErrNone)
	}
	for n, must := range map[int]int{250: 159, 259: 159, 260: 240, 270: 250, 179: 159, 178: 158, 140: 120, 139: 39, 59: 39, 58: 38, 20: 0} {
		dark(n)(&b)
		last, e := search.Last(b, 1)
		want(t, fmt.Sprint("Last to 1 with Dark ", n), last, e, must, api.OK)
	}
	for _, n := range []int{0, 19} {
		dark(n)(&b)
		last, e := search.Last(b, 1)
		want(t, fmt.Sprint("Last to 1 with Dark ", n), last, e, 0, api.ErrNone)
		first, e := search.First(b, 1, 0)
		want(t, fmt.Sprint("First to 1 with Dark ", n), first, e, 0, api.ErrNone)
	}
	dark(259)(&b)
	for post, must := range map[int]int{1: 159, 2: 153, 3: 143} {
		last, e := search.Last(b, post)
		want(t, fmt.Sprint("Last to ", post), last, e, must, api.OK)
	}
	b = book(stretches(flat(7, 7)), house(1), now(1000), dark(1014), travellers(0))
	first, e := search.First(b, 0, 1000)
	want(t, "First of one minute", first, e, 1000, api.OK)
	last, e := search.Last(b, 0)
	want(t, "Last of one minute", last, e, 1000, api.OK)
}

// farther is a book in which a round to the farther post below the house can be, and none to the nearer one: over a slope, out in its first hour, and back in its third one.
func farther(b *api.SearchBook) {
	b.Stretches = []api.SearchStretch{flat(50, 50), steep(0, 35, 35), flat(20, 25)}
	b.Slopes = []api.SlopeBook{pattern(true, false, true)}
	b.Dark = 789
}

// P7.4, P7.5: how far marroniers can go, and what cannot be searched.
func TestReach(t *testing.T) {
	six := func(house int, changes ...func(b *api.SearchBook)) api.SearchBook {
		return searching(house, []int{10, 10, 10, 10, 10, 10}, []int{0, 3, 5}, changes...)
	}
	for what, x := range map[string]struct {
		b      api.SearchBook
		reach  api.Span
		missed []int
	}{
		"everywhere":                     {six(3), to(0, 6), nil},
		"from the first post":            {six(0), to(0, 6), nil},
		"from the last post":             {six(6), to(0, 6), nil},
		"just as far by dark":            {six(3, dark(160)), to(0, 6), nil},
		"not as far by dark":             {six(3, dark(159)), to(1, 5), []int{0, 5}},
		"to the next ones alone":         {six(3, dark(120)), to(2, 4), []int{0, 5}},
		"nowhere by dark":                {six(3, dark(119)), at(3), []int{0, 3, 5}},
		"nowhere, from the first post":   {six(0, dark(100)), at(0), []int{0, 3, 5}},
		"nowhere, from the last post":    {six(6, dark(100)), at(6), []int{0, 3, 5}},
		"a slope below the house":        {six(3, on(1, pattern(false))), to(2, 6), []int{0}},
		"a slope above the house":        {six(3, on(3, pattern(false))), to(0, 3), []int{3, 5}},
		"a slope behind that":            {six(3, on(4, pattern(false))), to(0, 4), []int{5}},
		"on one side alone":              {six(6, on(5, pattern(false))), at(6), []int{0, 3, 5}},
		"in a later hour":                {six(3, on(3, pattern(false, true))), to(0, 5), []int{5}},
		"in a later hour, but dark":      {six(3, on(3, pattern(false, true)), dark(180)), to(0, 4), []int{5}},
		"in a later hour, nearly dark":   {six(3, on(3, pattern(false, true)), dark(179)), to(0, 3), []int{3, 5}},
		"nobody is missed":               {book(travellers(0), dark(620)), at(2), nil},
		"nobody can live":                {book(live(10), dark(620)), at(2), nil},
		"the farther post alone":         {book(farther), to(0, 3), nil},
		"not even that":                  {book(farther, dark(769)), to(2, 3), []int{1}},
		"the book from the first post":   {book(house(0)), to(0, 2), []int{2}},
		"the book from the last post":    {book(house(3), live(60)), to(1, 3), nil},
		"the book where it is dark soon": {book(dark(657)), to(2, 3), []int{1}},
		"the book on the way down":       {book(down), to(1, 3), []int{0}},
	} {
		wantReach(t, what, x.b, x.reach, x.missed)
	}
}

// P7.6, R6: the search that is over soonest, in both orders, and by two parties.
func TestSearch(t *testing.T) {
	four := []int{10, 20, 30, 40}
	even := []int{10, 20, 20, 10}
	none := rounds()
	late := pattern(false, true, true, true)
	for what, x := range map[string]struct {
		b    api.SearchBook
		must []api.SearchRound
		e    api.Errno
	}{
		"nothing must be searched":             {searching(2, four, nil), none, api.OK},
		"nothing, and it is dark":              {searching(2, four, nil, dark(100)), none, api.OK},
		"nothing, by two parties":              {searching(2, four, nil, parties(2)), none, api.OK},
		"nothing, and no round can be":         {searching(2, four, nil, on(1, pattern(false)), on(2, pattern(false))), none, api.OK},
		"below the house alone":                {searching(2, four, []int{1}), rounds(round(1, 100)), api.OK},
		"below, farther":                       {searching(2, four, []int{0}), rounds(round(0, 100)), api.OK},
		"below, twice":                         {searching(2, four, []int{0, 1}), rounds(round(0, 100)), api.OK},
		"above the house alone":                {searching(2, four, []int{2}), rounds(round(3, 100)), api.OK},
		"above, farther":                       {searching(2, four, []int{3}), rounds(round(4, 100)), api.OK},
		"above, twice":                         {searching(2, four, []int{3, 2}), rounds(round(4, 100)), api.OK},
		"above, by two parties":                {searching(2, four, []int{2}, parties(2)), rounds(round(3, 100)), api.OK},
		"from the first post":                  {searching(0, four, []int{1}), rounds(round(2, 100)), api.OK},
		"from the last post":                   {searching(4, four, []int{1}), rounds(round(1, 100)), api.OK},
		"on both sides":                        {searching(2, four, []int{1, 2}), rounds(round(1, 100), round(3, 140)), api.OK},
		"on both sides, farther":               {searching(2, four, []int{3, 0}), rounds(round(0, 100), round(4, 160)), api.OK},
		"on both sides, by two parties":        {searching(2, four, []int{3, 0}, parties(2)), rounds(round(0, 100), round(4, 100)), api.OK},
		"just by dark":                         {searching(2, four, []int{1, 2}, dark(200)), rounds(round(1, 100), round(3, 140)), api.OK},
		"not by dark":                          {searching(2, four, []int{1, 2}, dark(199)), none, api.ErrNone},
		"by two parties, just by dark":         {searching(2, four, []int{1, 2}, parties(2), dark(160)), rounds(round(1, 100), round(3, 100)), api.OK},
		"by two parties, not by dark":          {searching(2, four, []int{1, 2}, parties(2), dark(159)), none, api.ErrNone},
		"the slope below is safe later":        {searching(2, four, []int{1, 2}, on(1, late)), rounds(round(3, 100), round(1, 160)), api.OK},
		"later, by two parties":                {searching(2, four, []int{1, 2}, on(1, late), parties(2)), rounds(round(1, 160), round(3, 100)), api.OK},
		"the slope above is safe later":        {searching(2, four, []int{1, 2}, on(2, late)), rounds(round(1, 100), round(3, 160)), api.OK},
		"above it is safe soon alone":          {searching(2, four, []int{1, 2}, on(2, pattern(true, true, false))), rounds(round(1, 100), round(3, 140)), api.OK},
		"above it must be at once":             {searching(2, four, []int{1, 3}, on(2, pattern(true, true, true, false))), rounds(round(4, 100), round(1, 240)), api.OK},
		"below first, or it is too late":       {searching(2, []int{30, 30, 30, 30}, []int{1, 2}, on(1, pattern(true, true)), on(2, pattern(true, true, true))), rounds(round(1, 100), round(3, 160)), api.OK},
		"above first, or it is too late":       {searching(2, []int{30, 30, 30, 30}, []int{1, 2}, on(1, pattern(true, true, true)), on(2, pattern(true, true))), rounds(round(3, 100), round(1, 160)), api.OK},
		"too late in either order":             {searching(2, []int{30, 30, 30, 30}, []int{1, 2}, on(1, pattern(true, true)), on(2, pattern(true, true))), none, api.ErrNone},
		"below it is never safe":               {searching(2, four, []int{1, 2}, on(1, pattern(false))), none, api.ErrNone},
		"above it is never safe":               {searching(2, four, []int{1, 2}, on(2, pattern(false)), parties(2)), none, api.ErrNone},
		"above it is, but it need not be":      {searching(2, four, []int{1}, on(2, pattern(false))), rounds(round(1, 100)), api.OK},
		"even, in the order of posts":          {searching(2, even, []int{1, 2}), rounds(round(1, 100), round(3, 140)), api.OK},
		"even, the farther ones":               {searching(2, even, []int{0, 3}), rounds(round(0, 100), round(4, 160)), api.OK},
		"even, as soon in either order":        {searching(2, even, []int{1, 2}, on(1, pattern(false, true, true)), on(2, pattern(false, true, true))), rounds(round(1, 160), round(3, 200)), api.OK},
		"the farther post where it must be":    {book(farther, trailed(lost(1, 3).Trail), live(4000)), rounds(round(0, 600)), api.OK},
		"the farther post, then the other one": {searching(2, []int{50, 35, 25}, []int{1, 2}, on(1, pattern(true, false, true))), rounds(round(0, 100), round(3, 270)), api.OK},
		"the farther post, by two parties":     {searching(2, []int{50, 35, 25}, []int{1, 2}, on(1, pattern(true, false, true)), parties(2)), rounds(round(0, 100), round(3, 100)), api.OK},
		// Below the house one can go to the nearer post only from 220 on, and to the farther one at once; above it only from 400 on, so that both are back in time.
		"fewer minutes, where it is as soon": {searching(2, []int{50, 35, 25}, []int{1, 2}, on(1, pattern(true, false, true, true)), on(2, pattern(false, false, false, false, false, true)), parties(2)), rounds(round(1, 220), round(3, 400)), api.OK},
		"sooner, where it is more minutes":   {searching(2, []int{50, 35, 25}, []int{1}, on(1, pattern(true, false, true, true)), parties(2)), rounds(round(0, 100)), api.OK},
		"sooner below, by two parties":       {searching(2, []int{50, 35, 25}, []int{1, 2}, on(1, pattern(true, false, true, true)), parties(2)), rounds(round(0, 100), round(3, 100)), api.OK},
		"sooner above, by two parties":       {searching(1, []int{25, 35, 50}, []int{1, 0}, on(1, pattern(true, false, true, true)), parties(2)), rounds(round(0, 100), round(3, 100)), api.OK},
		// Whoever comes second can only go to the farther post, at the same times on both sides.
		"as soon, and to other posts": {searching(2, []int{40, 35, 35, 40}, []int{1, 2}, on(1, pattern(true, true, false, true)), on(2, pattern(true, true, false, true)), func(b *api.SearchBook) {
			b.Stretches[0].March.Low = 38
		}), rounds(round(1, 100), round(4, 170)), api.OK},
		"the book where it is dark at 708": {book(dark(708)), rounds(round(1, 600), round(3, 658)), api.OK},
		"the book where it is dark at 707": {book(dark(707)), none, api.ErrNone},
		"two, where it is dark at 658":     {book(dark(658), parties(2)), rounds(round(1, 600), round(3, 600)), api.OK},
		"two, where it is dark at 657":     {book(dark(657), parties(2)), none, api.ErrNone},
	} {
		wantSearch(t, what, x.b, x.must, x.e)
	}
}
