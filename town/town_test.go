package town_test

import (
	"fmt"
	"math"
	"slices"
	"strings"
	"testing"

	"clavendier/api"
	"clavendier/town"
)

func to(low, high int) api.Span { return api.Span{Low: low, High: high} }

func at(n int) api.Span { return to(n, n) }

func spans(list ...api.Span) []api.Span { return list }

func list(numbers ...int) []int { return numbers }

// contains reports whether a number lies in a span.
func contains(s api.Span, n int) bool { return s.Low <= n && n <= s.High }

func line(brother, night, town int, heard string) api.HouseLine {
	return api.HouseLine{Brother: brother, Night: night, Town: town, Heard: heard}
}

// change is how a book is changed.
type change func(b *api.TownBook)

// book is the book of the chapter, changed.
func book(changes ...change) api.TownBook {
	b := api.TownBook{
		House: api.HouseBook{
			Ear: api.NameEar{Alike: []string{"bp", "dt"}, Mute: "h", Slips: 1},
			Lines: []api.HouseLine{
				line(0, 0, 0, "peter"), line(0, 0, 1, "hans"), line(1, 0, 0, "beter"), line(1, 0, 1, "ans"),
				line(0, 1, 0, "peter"), line(1, 1, 0, "peder"),
			},
			Bowls: spans(to(2, 3), at(1)),
			Towns: 2,
		},
		Rate: 7, Paid: list(10, 10), Says: spans(at(2), to(0, 9)),
	}
	for _, c := range changes {
		c(&b)
	}
	return b
}

func says(spans ...api.Span) change { return func(b *api.TownBook) { b.Says = spans } }

func paid(batzen ...int) change { return func(b *api.TownBook) { b.Paid = batzen } }

func rate(n int) change { return func(b *api.TownBook) { b.Rate = n } }

func bowls(night, low, high int) change {
	return func(b *api.TownBook) { b.House.Bowls[night] = to(low, high) }
}

// doubted and open are what towns say in the other books of the chapter.
func doubted() change { return says(at(3), at(2)) }

func open() change { return says(to(0, 10), to(0, 10)) }

// with is a book of one night with these bowls; of each town there are as many names as its text has letters, and both brothers heard those that are great ones. All say nothing, and nothing is paid.
func with(bowls api.Span, heard ...string) api.TownBook {
	b := api.TownBook{House: api.HouseBook{Bowls: spans(bowls), Towns: len(heard)}, Rate: 1}
	for town, names := range heard {
		for _, letter := range strings.Split(names, "") {
			if name := strings.ToLower(letter); name != "" {
				b.House.Lines = append(b.House.Lines, line(0, 0, town, name))
				if name != letter {
					b.House.Lines = append(b.House.Lines, line(1, 0, town, name))
				}
			}
		}
		b.Paid, b.Says = append(b.Paid, 0), append(b.Says, to(0, 10))
	}
	return b
}

// changed is a book, changed.
func changed(b api.TownBook, changes ...change) api.TownBook {
	for _, c := range changes {
		c(&b)
	}
	return b
}

// want reports what a call returned, if it is not what was to be.
func want[T comparable](t *testing.T, call string, got T, e api.Errno, must T, code api.Errno) {
	t.Helper()
	if got != must || e != code {
		t.Errorf("%s: %v, error %d; not %v, error %d", call, got, e, must, code)
	}
}

// wantList does the same with lists.
func wantList(t *testing.T, call string, got []int, e api.Errno, must []int, code api.Errno) {
	t.Helper()
	if !slices.Equal(got, must) || e != code {
		t.Errorf("%s: %v, error %d; not %v, error %d", call, got, e, must, code)
	}
}

// wantError tests that all functions but Check return this error and nothing else, asked for this town and this bill.
func wantError(t *testing.T, what string, b api.TownBook, ask, bill int, code api.Errno) {
	t.Helper()
	is, e := town.Right(b)
	want(t, "Right, "+what, is, e, false, code)
	wantFalse(t, what, b, ask, bill, code)
	n, e := town.Agrees(b, ask)
	want(t, "Agrees, "+what, n, e, 0, code)
	wrong, e := town.Wrong(b)
	wantList(t, "Wrong, "+what, wrong, e, nil, code)
}

// wantFalse does the same of all functions that return an error if a book cannot be right.
func wantFalse(t *testing.T, what string, b api.TownBook, ask, bill int, code api.Errno) {
	t.Helper()
	s, e := town.Nights(b, ask)
	want(t, "Nights, "+what, s, e, api.Span{}, code)
	s, e = town.Owes(b, ask)
	want(t, "Owes, "+what, s, e, api.Span{}, code)
	asked, e := town.Asked(b)
	wantList(t, "Asked, "+what, asked, e, nil, code)
	s, e = town.Lost(b)
	want(t, "Lost, "+what, s, e, api.Span{}, code)
	share, e := town.Share(b, bill)
	wantList(t, "Share, "+what, share, e, nil, code)
	n, e := town.Hear(b)
	want(t, "Hear, "+what, n, e, 0, code)
}

// wrongHouses are changes after which the house is not valid.
func wrongHouses() map[string]change {
	house := func(do func(h *api.HouseBook)) change { return func(b *api.TownBook) { do(&b.House) } }
	return map[string]change{
		"no house":                  house(func(h *api.HouseBook) { *h = api.HouseBook{} }),
		"no house, but two towns":   house(func(h *api.HouseBook) { *h = api.HouseBook{Towns: 2} }),
		"no nights":                 house(func(h *api.HouseBook) { h.Bowls = nil }),
		"six nights":                house(func(h *api.HouseBook) { h.Bowls = make([]api.Span, 6) }),
		"a name of no bytes":        house(func(h *api.HouseBook) { h.Lines[0].Heard = "" }),
		"a name with a sign":        house(func(h *api.HouseBook) { h.Lines[5].Heard = "peter!" }),
		"a brother 2":               house(func(h *api.HouseBook) { h.Lines[5].Brother = 2 }),
		"a night that there is not": house(func(h *api.HouseBook) { h.Lines[5].Night = 2 }),
		"a town that there is not":  house(func(h *api.HouseBook) { h.Lines[5].Town = 2 }),
		"eleven lines":              house(func(h *api.HouseBook) { h.Lines = slices.Repeat(h.Lines[:1], 11) }),
		"many lines":                house(func(h *api.HouseBook) { h.Lines = slices.Repeat(h.Lines, 10000) }),
		"bowls above 99":            bowls(0, 2, 100),
		"bowls the wrong way round": bowls(1, 2, 1),
		"bowls below 0":             bowls(1, -1, 1),
		"an ear with four slips":    house(func(h *api.HouseBook) { h.Ear.Slips = 4 }),
		"an ear with a lone letter": house(func(h *api.HouseBook) { h.Ear.Alike = []string{"a"} }),
	}
}

// wrongTowns are changes after which the number of towns is not valid, or none that Paid and Says are for.
func wrongTowns() map[string]change {
	all := map[string]change{}
	for _, n := range []int{math.MinInt, -1, 0, 1, 3, 4, 5, math.MaxInt} {
		all[fmt.Sprint(n, " towns, and two of all else")] = func(b *api.TownBook) { b.House.Towns = n }
		if n >= 0 && n <= 5 {
			all[fmt.Sprint("two towns, but ", n, " that paid")] = paid(make([]int, n)...)
			all[fmt.Sprint("two towns, but ", n, " that say")] = says(make([]api.Span, n)...)
			all[fmt.Sprint("two towns, but ", n, " of all else")] = func(b *api.TownBook) {
				b.Paid, b.Says = make([]int, n), make([]api.Span, n)
			}
		}
	}
	all["many that paid"] = paid(make([]int, 100000)...)
	all["many that say"] = says(make([]api.Span, 100000)...)
	for _, n := range []int{0, 5} {
		all[fmt.Sprint(n, " towns, and so many of all else, without lines")] = func(b *api.TownBook) {
			b.House.Towns, b.House.Lines, b.House.Bowls = n, nil, spans(at(0))
			b.Paid, b.Says = make([]int, n), make([]api.Span, n)
		}
	}
	return all
}

// wrongBooks are books that are not valid.
func wrongBooks() map[string]api.TownBook {
	all := map[string]api.TownBook{"nothing": {}}
	for _, changes := range []map[string]change{wrongHouses(), wrongTowns()} {
		for what, c := range changes {
			all[what] = book(c)
		}
	}
	for _, n := range []int{-1, 101, math.MinInt, math.MaxInt} {
		all[fmt.Sprint("a rate of ", n)] = book(rate(n))
	}
	for _, n := range []int{-1, 100001, math.MinInt, math.MaxInt} {
		all[fmt.Sprint("the first one paid ", n)] = book(paid(n, 10))
		all[fmt.Sprint("the last one paid ", n)] = book(paid(10, n))
	}
	for _, s := range spans(to(-1, 5), to(0, 11), to(11, 11), to(-1, -1), to(5, 4), to(10, 0), to(math.MinInt, math.MaxInt), to(math.MaxInt, math.MinInt), to(2, math.MaxInt)) {
		all[fmt.Sprint("the first one says ", s)] = book(says(s, at(2)))
		all[fmt.Sprint("the last one says ", s)] = book(says(at(2), s))
	}
	all["all of it wrong"] = api.TownBook{House: book(bowls(0, 9, 1)).House, Rate: -1, Paid: list(-1), Says: spans(to(9, 1))}
	return all
}

// P9.1, R7: books that are valid, up to their ends, whether they can be right or not.
func TestBooks(t *testing.T) {
	for i, x := range []struct {
		b     api.TownBook
		right bool
	}{
		{book(), true}, {book(open()), true}, {book(doubted()), false},
		{book(rate(0)), true}, {book(rate(100)), true},
		{book(paid(0, 0)), true}, {book(paid(100000, 100000)), true}, {book(paid(0, 100000)), true},
		{book(says(at(0), at(0))), false}, {book(says(at(10), at(10))), false}, {book(says(at(2), to(0, 10))), true},
		{book(bowls(0, 5, 5)), false}, {book(open(), bowls(1, 0, 0)), false},
		{with(at(0), ""), true}, {with(to(0, 99), ""), true}, {with(at(1), ""), false},
		{with(at(0), "", "", "", ""), true}, {with(at(10), "aaaaaaaaaa"), true}, {changed(with(at(10), "aaaaaaaaaa"), says(at(10))), true},
		{changed(with(at(10), "aaaaaaaaaa"), says(to(0, 9))), false},
		{with(to(5, 10), "A", "A", "A", "AA"), true},
	} {
		if e := town.Check(x.b); e != api.OK {
			t.Errorf("Check of the book %d: error %d", i, e)
		}
		got, e := town.Right(x.b)
		want(t, fmt.Sprint("Right of the book ", i), got, e, x.right, api.OK)
	}
}

// P9.1, P1, R1, R2, R8: a wrong book is the first error of all functions, with nothing else.
func TestWrongBooks(t *testing.T) {
	for what, b := range wrongBooks() {
		if e := town.Check(b); e != api.ErrTown {
			t.Errorf("Check, %s: error %d", what, e)
		}
		for _, n := range []int{0, 1, -1, 2, math.MinInt, math.MaxInt} {
			wantError(t, what, b, n, n, api.ErrTown)
		}
	}
}

// P9.1: what is wrong of a book is told also where its house has no truth, or towns cannot be right.
func TestWrongBeforeFalse(t *testing.T) {
	for what, c := range map[string]change{"doubted": doubted(), "without a truth": bowls(0, 9, 9)} {
		for _, wrong := range []change{rate(101), paid(10, -1), func(b *api.TownBook) { b.Says = append(b.Says, at(0)) }} {
			b := book(c, wrong)
			if e := town.Check(b); e != api.ErrTown {
				t.Errorf("Check, %s: error %d", what, e)
			}
			wantError(t, what, b, -1, -1, api.ErrTown)
		}
	}
}

// bookCase is a book, and what is told of it.
type bookCase struct {
	what         string
	b            api.TownBook
	nights, owes []api.Span // none: the book cannot be right
	asked        []int
	lost         api.Span
	agrees       []int // none: the house has no truth
	wrong        []int
	hear         int // -1: nothing is left to be heard
}

func bookCases() []bookCase {
	return append(casesOfTheChapter(), casesOfOneNight()...)
}

func casesOfTheChapter() []bookCase {
	none := bowls(0, 5, 5)
	return []bookCase{
		{"of the chapter", book(), spans(at(2), to(1, 2)), spans(at(4), to(-3, 4)), list(4, 0), to(0, 4), list(1, 2), nil, 1},
		{"doubted", book(doubted()), nil, nil, nil, at(0), list(1, 1), list(0), 0},
		{"open", book(open()), spans(to(2, 3), to(1, 2)), spans(to(4, 11), to(-3, 4)), list(4, 0), to(0, 7), list(2, 2), nil, 0},
		{"without a truth", book(none), nil, nil, nil, at(0), nil, nil, 0},
		{"open, without a truth", book(open(), none), nil, nil, nil, at(0), nil, nil, 0},
		{"the town 0 says 4 to 9", book(says(to(4, 9), to(0, 9))), nil, nil, nil, at(0), list(0, 2), list(0), 0},
		{"the town 1 says 3", book(says(to(0, 9), at(3))), nil, nil, nil, at(0), list(2, 0), list(1), 0},
		{"both say 0", book(says(at(0), at(0))), nil, nil, nil, at(0), list(0, 0), list(0, 1), 0},
		{"what one says tells of the other one", book(says(at(3), to(0, 10))), spans(at(3), at(1)), spans(at(11), at(-3)), list(11, 0), at(0), list(1, 2), nil, -1},
		{"what the other one says tells of the first", book(says(to(0, 10), at(2))), spans(at(2), at(2)), spans(at(4), at(4)), list(4, 4), at(0), list(2, 1), nil, -1},
		{"one is known", book(says(to(0, 10), at(1))), spans(to(2, 3), at(1)), spans(to(4, 11), at(-3)), list(4, 0), to(0, 7), list(2, 1), nil, 0},
		{"nothing is paid", book(open(), paid(0, 0)), spans(to(2, 3), to(1, 2)), spans(to(14, 21), to(7, 14)), list(14, 7), to(0, 7), list(2, 2), nil, 0},
		{"all is paid", book(open(), paid(21, 14)), spans(to(2, 3), to(1, 2)), spans(to(-7, 0), to(-7, 0)), list(0, 0), at(0), list(2, 2), nil, 0},
		{"a batz less is paid", book(open(), paid(20, 13)), spans(to(2, 3), to(1, 2)), spans(to(-6, 1), to(-6, 1)), list(0, 0), to(0, 1), list(2, 2), nil, 0},
		{"much too much is paid", book(open(), paid(20, 100000)), spans(to(2, 3), to(1, 2)), spans(to(-6, 1), to(-99993, -99986)), list(0, 0), to(0, 1), list(2, 2), nil, 0},
		{"nights cost nothing", book(open(), rate(0)), spans(to(2, 3), to(1, 2)), spans(at(-10), at(-10)), list(0, 0), at(0), list(2, 2), nil, 0},
		{"nights cost most", book(open(), rate(100)), spans(to(2, 3), to(1, 2)), spans(to(190, 290), to(90, 190)), list(190, 90), to(0, 100), list(2, 2), nil, 0},
	}
}

func casesOfOneNight() []bookCase {
	four := spans(at(3), at(0), at(5), at(2))
	return []bookCase{
		{"no lines", with(at(0), ""), spans(at(0)), spans(at(0)), list(0), at(0), list(2), nil, -1},
		{"no lines, but one that says 1", changed(with(at(0), "", ""), says(to(0, 10), at(1))), nil, nil, nil, at(0), list(2, 0), list(1), 0},
		{"no lines, but bowls", with(at(1), "", "", "", ""), nil, nil, nil, at(0), nil, nil, 0},
		{"four towns", with(to(0, 99), "aaa", "", "aaaaa", "aa"), four, four, list(3, 0, 5, 2), at(0), list(2, 2, 2, 2), nil, -1},
		// In each truth just one of both towns has a night less, so that as much is lost in each.
		{"one or the other one", with(at(3), "A", "A"), spans(to(1, 2), to(1, 2)), spans(to(1, 2), to(1, 2)), list(1, 1), at(1), list(2, 2), nil, 0},
		{"one or the other one, who both say less", changed(with(at(3), "A", "A"), says(at(1), to(0, 1))), nil, nil, nil, at(0), list(1, 1), list(0), 0},
		{"one or the other one, and all is paid", changed(with(at(3), "A", "A"), rate(5), paid(5, 10)), spans(to(1, 2), to(1, 2)), spans(to(0, 5), to(-5, 0)), list(0, 0), to(0, 5), list(2, 2), nil, 0},
		{"of four towns two are wrong", changed(with(at(6), "A", "A", "A", "A"), says(at(2), at(2), at(2), at(2))), nil, nil, nil, at(0), list(1, 1, 1, 1), list(0, 1), 0},
		{"of four towns the last two are wrong", changed(with(at(6), "A", "A", "A", "A"), says(at(2), at(2), at(9), at(9))), nil, nil, nil, at(0), list(1, 1, 0, 0), list(2, 3), 0},
		{"of four towns another one is wrong", changed(with(at(6), "A", "A", "A", "A"), says(at(1), at(2), at(2), at(2))), nil, nil, nil, at(0), list(1, 1, 1, 1), list(1), 0},
		{"all four are wrong", changed(with(at(6), "A", "A", "A", "A"), says(at(0), at(3), at(0), at(3))), nil, nil, nil, at(0), list(0, 0, 0, 0), list(0, 1, 2, 3), 0},
		// Two pairs are joined: of the towns 0 and 1, of one of them and the town 2, or both of the town 2.
		{"the fewest, not the first ones", changed(with(at(6), "A", "A", "AB"), says(at(2), at(2), at(4))), nil, nil, nil, at(0), list(1, 1, 1), list(2), 0},
		// Of seven truths one has 4 nights, four have 3, and two have 2; each of them is so with 1 and with 2 nights of the other town.
		{"truths are counted, not nights", with(to(0, 99), "AA", "B"), spans(to(2, 4), to(1, 2)), spans(to(2, 4), to(1, 2)), list(2, 1), to(0, 3), list(2, 2), nil, 1},
		{"truths are counted, the other way round", with(to(0, 99), "B", "AA"), spans(to(1, 2), to(2, 4)), spans(to(1, 2), to(2, 4)), list(1, 2), to(0, 3), list(2, 2), nil, 0},
		{"more is left in the middle", with(to(0, 99), "AB", "C"), spans(to(2, 4), to(1, 2)), spans(to(2, 4), to(1, 2)), list(2, 1), to(0, 3), list(2, 2), nil, 0},
		// Of the town 0 one of 34 truths has 6 nights, nine have 5, 18 have 4, and six have 3.
		{"as many lines as can be", with(to(0, 99), "AAA", "BB"), spans(to(3, 6), to(2, 4)), spans(to(3, 6), to(2, 4)), list(3, 2), to(0, 5), list(2, 2), nil, 0},
		{"as many lines as can be, the other way round", with(to(0, 99), "BB", "AAA"), spans(to(2, 4), to(3, 6)), spans(to(2, 4), to(3, 6)), list(2, 3), to(0, 5), list(2, 2), nil, 1},
		{"as many lines of one town as can be", with(to(0, 99), "AAAAA"), spans(to(5, 10)), spans(to(5, 10)), list(5), to(0, 5), list(2), nil, 0},
		{"several truths of the same nights", with(at(3), "AA", "b"), spans(at(2), at(1)), spans(at(2), at(1)), list(2, 1), at(0), list(2, 2), nil, -1},
		{"one truth", with(at(2), "A", "B"), spans(at(1), at(1)), spans(at(1), at(1)), list(1, 1), at(0), list(2, 2), nil, -1},
		{"a town that is known before one that is not", with(to(4, 5), "a", "b", "cC"), spans(at(1), at(1), to(2, 3)), spans(at(1), at(1), to(2, 3)), list(1, 1, 2), to(0, 1), list(2, 2, 2), nil, 2},
	}
}

// P9.1 to P9.8, R6: all that is told of a book.
func TestWhatIsTold(t *testing.T) {
	for _, x := range bookCases() {
		right, e := town.Right(x.b)
		want(t, "Right, "+x.what, right, e, x.nights != nil, api.OK)
		if x.nights == nil {
			wantFalse(t, x.what, x.b, 0, 5, api.ErrTownFalse)
		} else {
			wantTold(t, x)
		}
		code := api.OK
		if x.agrees == nil {
			code, x.agrees = api.ErrTownFalse, make([]int, x.b.House.Towns)
		}
		for k := range x.b.House.Towns {
			n, e := town.Agrees(x.b, k)
			want(t, fmt.Sprint("Agrees of ", k, ", ", x.what), n, e, x.agrees[k], code)
		}
		wrong, e := town.Wrong(x.b)
		wantList(t, "Wrong, "+x.what, wrong, e, x.wrong, code)
	}
}

// wantTold tests what is told of a book that can be right.
func wantTold(t *testing.T, x bookCase) {
	t.Helper()
	for k := range x.b.House.Towns {
		s, e := town.Nights(x.b, k)
		want(t, fmt.Sprint("Nights of ", k, ", ", x.what), s, e, x.nights[k], api.OK)
		s, e = town.Owes(x.b, k)
		want(t, fmt.Sprint("Owes of ", k, ", ", x.what), s, e, x.owes[k], api.OK)
	}
	asked, e := town.Asked(x.b)
	wantList(t, "Asked, "+x.what, asked, e, x.asked, api.OK)
	lost, e := town.Lost(x.b)
	want(t, "Lost, "+x.what, lost, e, x.lost, api.OK)
	n, e := town.Hear(x.b)
	if x.hear < 0 {
		want(t, "Hear, "+x.what, n, e, 0, api.ErrNone)
	} else {
		want(t, "Hear, "+x.what, n, e, x.hear, api.OK)
	}
}

// P9.2, P9.6, P1, R1, R2: wrong questions come before that nothing can be right.
func TestWrongQuestions(t *testing.T) {
	for what, b := range map[string]api.TownBook{"of the chapter": book(), "doubted": book(doubted()), "without a truth": book(bowls(0, 9, 9))} {
		for _, n := range []int{-1, 2, 3, 4, math.MinInt, math.MaxInt} {
			call := fmt.Sprint(" of ", n, ", ", what)
			s, e := town.Nights(b, n)
			want(t, "Nights"+call, s, e, api.Span{}, api.ErrTownAsk)
			s, e = town.Owes(b, n)
			want(t, "Owes"+call, s, e, api.Span{}, api.ErrTownAsk)
			k, e := town.Agrees(b, n)
			want(t, "Agrees"+call, k, e, 0, api.ErrTownAsk)
		}
	}
	// as many towns as there can be, and as few
	for _, b := range []api.TownBook{with(at(0), "", "", "", ""), with(at(0), "")} {
		last := b.House.Towns - 1
		call := fmt.Sprint(" of ", last, " of ", last+1)
		s, e := town.Nights(b, last)
		want(t, "Nights"+call, s, e, at(0), api.OK)
		s, e = town.Nights(b, last+1)
		want(t, "Nights of one more than"+call, s, e, api.Span{}, api.ErrTownAsk)
		k, e := town.Agrees(b, last)
		want(t, "Agrees"+call, k, e, 2, api.OK)
		k, e = town.Agrees(b, last+1)
		want(t, "Agrees of one more than"+call, k, e, 0, api.ErrTownAsk)
	}
}

// P9.5, R5, R6: a bill is shared by the least nights of all truths of the book.
func TestShare(t *testing.T) {
	lines := func(nights ...int) api.TownBook {
		var heard []string
		for _, n := range nights {
			heard = append(heard, strings.Repeat("a", n))
		}
		return with(to(0, 99), heard...)
	}
	for i, x := range []struct {
		b    api.TownBook
		bill int
		must []int
	}{
		{book(), 100, list(67, 33)}, {book(), 2, list(1, 1)}, {book(), 0, list(0, 0)}, {book(), 1, list(1, 0)}, {book(), 3, list(2, 1)}, {book(), 4, list(3, 1)}, {book(), 5, list(3, 2)},
		{book(), 1000000, list(666667, 333333)}, {book(), 999999, list(666666, 333333)},
		{book(open()), 100, list(67, 33)}, {book(says(at(3), to(0, 10))), 10, list(8, 2)}, {book(says(to(0, 10), at(2))), 5, list(3, 2)},
		{book(open(), rate(0), paid(7, 100000)), 100, list(67, 33)},
		{lines(1), 1000000, list(1000000)}, {lines(7), 5, list(5)},
		{lines(1, 1), 1, list(1, 0)}, {lines(1, 1), 3, list(2, 1)}, {lines(1, 1, 1), 1, list(1, 0, 0)}, {lines(1, 1, 1), 2, list(1, 1, 0)}, {lines(1, 1, 1, 1), 7, list(2, 2, 2, 1)},
		{lines(3, 0, 5, 2), 10, list(3, 0, 5, 2)}, {lines(3, 0, 5, 2), 11, list(3, 0, 6, 2)}, {lines(3, 0, 5, 2), 12, list(4, 0, 6, 2)}, {lines(3, 0, 5, 2), 1, list(0, 0, 1, 0)},
		{lines(1, 1, 1, 0), 2, list(1, 1, 0, 0)}, {lines(0, 1, 1, 1), 2, list(0, 1, 1, 0)}, {lines(1, 1, 1, 4), 2, list(1, 0, 0, 1)},
		{lines(2, 3, 1), 10, list(3, 5, 2)}, {lines(4, 3, 2, 1), 999, list(399, 300, 200, 100)}, {lines(1, 2, 3, 4), 999, list(100, 200, 300, 399)}, {lines(4, 3, 2, 1), 1000000, list(400000, 300000, 200000, 100000)},
		{lines(0, 0, 0, 10), 99, list(0, 0, 0, 99)}, {lines(0, 3), 100, list(0, 100)},
		{with(to(0, 99), "A", "bc"), 9, list(3, 6)}, {changed(with(to(0, 99), "A", "bc"), says(at(2), to(0, 10))), 9, list(5, 4)},
	} {
		got, e := town.Share(x.b, x.bill)
		wantList(t, fmt.Sprint("Share ", i, " of ", x.bill), got, e, x.must, api.OK)
	}
}

// P9.5, R1, R2: the errors of Share, in their order.
func TestShareErrors(t *testing.T) {
	empty := with(at(0), "", "")
	for i, x := range []struct {
		b    api.TownBook
		bill int
		code api.Errno
	}{
		{book(rate(101)), -1, api.ErrTown}, {book(), -1, api.ErrTownAsk}, {book(), 1000001, api.ErrTownAsk}, {book(), math.MinInt, api.ErrTownAsk}, {book(), math.MaxInt, api.ErrTownAsk},
		{book(doubted()), -1, api.ErrTownAsk}, {book(doubted()), 1000001, api.ErrTownAsk}, {book(doubted()), 0, api.ErrTownFalse}, {book(doubted()), 1000000, api.ErrTownFalse},
		{book(bowls(0, 5, 5)), 1000001, api.ErrTownAsk}, {book(bowls(0, 5, 5)), 5, api.ErrTownFalse},
		{empty, -1, api.ErrTownAsk}, {empty, 0, api.ErrNone}, {empty, 5, api.ErrNone}, {empty, 1000000, api.ErrNone},
		{changed(empty, says(at(0), at(1))), 5, api.ErrTownFalse}, {with(at(1), "", ""), 5, api.ErrTownFalse},
	} {
		got, e := town.Share(x.b, x.bill)
		wantList(t, fmt.Sprint("Share ", i, " of ", x.bill), got, e, nil, x.code)
	}
}

// P9.6, P9.7: Agrees and Wrong need no book that can be right, but a truth of the house.
func TestFalseBooks(t *testing.T) {
	wantFalse(t, "doubted", book(doubted()), 0, 5, api.ErrTownFalse)
	none := book(doubted(), bowls(1, 3, 3))
	wantFalse(t, "without a truth", none, 0, 5, api.ErrTownFalse)
	for k := range 2 {
		n, e := town.Agrees(book(doubted()), k)
		want(t, fmt.Sprint("Agrees of ", k, ", doubted"), n, e, 1, api.OK)
		n, e = town.Agrees(none, k)
		want(t, fmt.Sprint("Agrees of ", k, ", without a truth"), n, e, 0, api.ErrTownFalse)
	}
	wrong, e := town.Wrong(book(doubted()))
	wantList(t, "Wrong, doubted", wrong, e, list(0), api.OK)
	wrong, e = town.Wrong(none)
	wantList(t, "Wrong, without a truth", wrong, e, nil, api.ErrTownFalse)
}

// ask asks everything of a book.
func ask(b api.TownBook) string {
	right, e1 := town.Right(b)
	asked, e2 := town.Asked(b)
	lost, e3 := town.Lost(b)
	wrong, e4 := town.Wrong(b)
	hear, e5 := town.Hear(b)
	answers := []string{fmt.Sprint(town.Check(b), right, e1, asked, e2, lost, e3, wrong, e4, hear, e5)}
	for n := range api.HouseTowns + 1 {
		nights, e1 := town.Nights(b, n)
		owes, e2 := town.Owes(b, n)
		agrees, e3 := town.Agrees(b, n)
		share, e4 := town.Share(b, 50*n)
		answers = append(answers, fmt.Sprint(nights, e1, owes, e2, agrees, e3, share, e4))
	}
	return strings.Join(answers, "; ")
}

// R3: between nil and empty there is no difference.
func TestNilAndEmpty(t *testing.T) {
	none := with(to(0, 3), "")
	empty := with(to(0, 3), "")
	empty.House.Ear.Alike, empty.House.Lines = []string{}, []api.HouseLine{}
	if one, other := ask(none), ask(empty); one != other {
		t.Errorf("%s with nil, %s with empty lists", one, other)
	}
	for _, b := range []api.TownBook{book(paid(), says()), book(paid([]int{}...), says([]api.Span{}...))} {
		wantError(t, "neither paid nor said", b, 0, 0, api.ErrTown)
	}
}
