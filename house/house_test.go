package house_test

import (
	"fmt"
	"math"
	"slices"
	"strings"
	"testing"

	"clavendier/api"
	"clavendier/house"
)

func to(low, high int) api.Span { return api.Span{Low: low, High: high} }

func at(n int) api.Span { return to(n, n) }

func spans(list ...api.Span) []api.Span { return list }

func line(brother, night, town int, heard string) api.HouseLine {
	return api.HouseLine{Brother: brother, Night: night, Town: town, Heard: heard}
}

// pairs is a list of pairs: one, other, one, other and so on.
func pairs(lines ...int) []api.NamePair {
	var list []api.NamePair
	for i := 0; i < len(lines); i += 2 {
		list = append(list, api.NamePair{One: lines[i], Other: lines[i+1]})
	}
	return list
}

// book is the house of the chapter, changed.
func book(changes ...func(b *api.HouseBook)) api.HouseBook {
	b := api.HouseBook{
		Ear: api.NameEar{Alike: []string{"bp", "dt"}, Mute: "h", Slips: 1},
		Lines: []api.HouseLine{
			line(0, 0, 0, "peter"), line(0, 0, 1, "hans"), line(1, 0, 0, "beter"), line(1, 0, 1, "ans"),
			line(0, 1, 0, "peter"), line(1, 1, 0, "peder"),
		},
		Bowls: spans(to(2, 3), at(1)),
		Towns: 2,
	}
	for _, change := range changes {
		change(&b)
	}
	return b
}

// bowls are those of a night.
func bowls(night, low, high int) func(b *api.HouseBook) {
	return func(b *api.HouseBook) { b.Bowls[night] = to(low, high) }
}

func lines(list ...api.HouseLine) func(b *api.HouseBook) {
	return func(b *api.HouseBook) { b.Lines = list }
}

// with is a house with these bowls, and of four towns; all names are heard as one just if they are the same.
func with(bowls []api.Span, lines ...api.HouseLine) api.HouseBook {
	return api.HouseBook{Lines: lines, Bowls: bowls, Towns: 4}
}

// alike is a house of one night, in which all lines are of one town and name, of these brothers.
func alike(bowls api.Span, brothers ...int) api.HouseBook {
	b := with(spans(bowls))
	for _, n := range brothers {
		b.Lines = append(b.Lines, line(n, 0, 0, "a"))
	}
	return b
}

// wrongEars are ears that are not valid.
func wrongEars() map[string]api.NameEar {
	return map[string]api.NameEar{
		"four slips":                {Slips: 4},
		"slips below 0":             {Slips: -1},
		"a letter in two groups":    {Alike: []string{"ab", "bc"}},
		"five groups":               {Alike: []string{"ab", "cd", "ef", "gh", "ij"}},
		"a group of one letter":     {Alike: []string{"a"}},
		"four mute letters":         {Mute: "abcd"},
		"a digit among the mute":    {Mute: "1"},
		"a mute letter that is two": {Mute: "hh"},
	}
}

// wrongNames are texts that are no names.
func wrongNames() map[string]string {
	return map[string]string{
		"no bytes":               "",
		"thirteen bytes":         "abcdefghijklm",
		"far too many bytes":     strings.Repeat("a", 70000),
		"a digit first":          "1peter",
		"a great letter":         "Peter",
		"a great letter behind":  "petEr",
		"a space":                "pe ter",
		"a sign":                 "peter-1",
		"another alphabet":       "p\u00e9ter",
		"a byte that is no text": "peter\xff",
		"a zero byte":            "peter\x00",
	}
}

// wrongHouses are houses that are not valid.
func wrongHouses() map[string]api.HouseBook {
	first := func(change func(l *api.HouseLine)) api.HouseBook {
		return book(func(b *api.HouseBook) { change(&b.Lines[0]) })
	}
	last := func(change func(l *api.HouseLine)) api.HouseBook {
		return book(func(b *api.HouseBook) { change(&b.Lines[5]) })
	}
	towns := func(n int) api.HouseBook { return book(func(b *api.HouseBook) { b.Towns = n }) }
	list := map[string]api.HouseBook{
		"nothing":                         {},
		"no nights":                       {Towns: 1},
		"no nights, an empty list":        {Towns: 1, Bowls: spans()},
		"six nights":                      book(func(b *api.HouseBook) { b.Bowls = make([]api.Span, 6) }),
		"far too many nights":             book(func(b *api.HouseBook) { b.Bowls = make([]api.Span, 100000) }),
		"no towns":                        {Bowls: spans(at(0))},
		"no towns, but lines":             towns(0),
		"five towns":                      towns(5),
		"towns below 0":                   towns(-1),
		"the least towns":                 towns(math.MinInt),
		"the greatest towns":              towns(math.MaxInt),
		"bowls below 0":                   book(bowls(0, -1, 3)),
		"bowls above 99":                  book(bowls(0, 2, 100)),
		"bowls the wrong way round":       book(bowls(0, 3, 2)),
		"the widest bowls":                book(bowls(0, math.MinInt, math.MaxInt)),
		"bowls from the greatest":         book(bowls(0, math.MaxInt, math.MinInt)),
		"wrong bowls of the last night":   book(bowls(1, 1, 100)),
		"last bowls the wrong way round":  book(bowls(1, 1, 0)),
		"eleven lines":                    alike(to(0, 99), 0, 0, 0, 0, 0, 1, 1, 1, 1, 1, 1),
		"far too many lines":              alike(to(0, 99), make([]int, 100000)...),
		"a brother below 0":               first(func(l *api.HouseLine) { l.Brother = -1 }),
		"a brother 2":                     last(func(l *api.HouseLine) { l.Brother = 2 }),
		"the least brother":               first(func(l *api.HouseLine) { l.Brother = math.MinInt }),
		"the greatest brother":            last(func(l *api.HouseLine) { l.Brother = math.MaxInt }),
		"a night below 0":                 first(func(l *api.HouseLine) { l.Night = -1 }),
		"a night behind the last one":     last(func(l *api.HouseLine) { l.Night = 2 }),
		"the least night":                 first(func(l *api.HouseLine) { l.Night = math.MinInt }),
		"the greatest night":              last(func(l *api.HouseLine) { l.Night = math.MaxInt }),
		"a town below 0":                  first(func(l *api.HouseLine) { l.Town = -1 }),
		"a town that there is not":        last(func(l *api.HouseLine) { l.Town = 2 }),
		"the least town":                  first(func(l *api.HouseLine) { l.Town = math.MinInt }),
		"the greatest town":               last(func(l *api.HouseLine) { l.Town = math.MaxInt }),
		"a line, but its night is wrong":  with(spans(at(1)), line(0, 1, 0, "a")),
		"all of it wrong":                 {Ear: api.NameEar{Slips: 9}, Lines: []api.HouseLine{{Brother: 7, Night: 7, Town: 7}}, Bowls: spans(to(9, 1)), Towns: 9},
		"a wrong line behind good ones":   with(spans(at(1)), line(0, 0, 0, "a"), line(1, 0, 0, "a"), line(1, 0, 4, "a")),
		"wrong bowls between good ones":   with(spans(at(0), to(1, 0), at(0))),
		"a wrong ear, without any line":   {Ear: api.NameEar{Slips: 4}, Bowls: spans(at(0)), Towns: 1},
		"wrong bowls, without any line":   with(spans(at(100))),
		"bowls that are wrong and cannot": alike(to(5, 100), 0, 1),
	}
	for what, heard := range wrongNames() {
		list["a first line with "+what] = first(func(l *api.HouseLine) { l.Heard = heard })
		list["a last line with "+what] = last(func(l *api.HouseLine) { l.Heard = heard })
	}
	for what, e := range wrongEars() {
		list["an ear with "+what] = book(func(b *api.HouseBook) { b.Ear = e })
	}
	return list
}

// want reports what a call returned, if it is not what was to be.
func want[T comparable](t *testing.T, call string, got T, e api.Errno, must T, code api.Errno) {
	t.Helper()
	if got != must || e != code {
		t.Errorf("%s: %v, error %d; not %v, error %d", call, got, e, must, code)
	}
}

// wantList does the same with lists.
func wantList[T comparable](t *testing.T, call string, got []T, e api.Errno, must []T, code api.Errno) {
	t.Helper()
	if !slices.Equal(got, must) || e != code {
		t.Errorf("%s: %v, error %d; not %v, error %d", call, got, e, must, code)
	}
}

// numbers are what can be asked for, and what cannot, of things that there are so many of.
func numbers(count int) []int {
	list := []int{-1, count, count + 1, math.MinInt, math.MaxInt}
	for n := range count {
		list = append(list, n)
	}
	return list
}

// P8.1, R7: houses that are valid, up to their ends.
func TestHouses(t *testing.T) {
	for i, b := range []api.HouseBook{
		book(), book(lines()), alike(at(0)), alike(to(0, 99), 0, 0, 0, 0, 0, 1, 1, 1, 1, 1), alike(at(99), 1),
		{Bowls: spans(at(0)), Towns: 1},
		with(spans(at(0), at(99), to(0, 99), to(98, 99), to(0, 1))),
		with(spans(at(0), at(0), at(0), at(0), at(2)), line(0, 4, 3, "abcdefghijkl"), line(1, 4, 3, "z0123456789a")),
		{Bowls: spans(at(1)), Towns: 1, Lines: []api.HouseLine{line(1, 0, 0, "z")}, Ear: api.NameEar{Alike: []string{"abcd", "efgh", "ijkl", "mnop"}, Mute: "xyz", Slips: 3}},
		book(func(b *api.HouseBook) { b.Lines[0].Heard = "h" }), // nothing is left of a name that is mute
		book(bowls(0, 50, 60)), // bowls that cannot be true are valid
	} {
		if e := house.Check(b); e != api.OK {
			t.Errorf("the house %d: error %d", i, e)
		}
	}
}

// P8.1, P1, R1, R2, R8: a wrong house is the first error of all functions, with nothing else.
func TestWrongHouses(t *testing.T) {
	const e = api.ErrHouse
	for what, b := range wrongHouses() {
		if got := house.Check(b); got != e {
			t.Errorf("Check, %s: error %d", what, got)
		}
		for _, n := range numbers(2) {
			can, got := house.Can(b, n, 1)
			want(t, "Can, "+what, can, got, false, e)
			can, got = house.Can(b, 0, n)
			want(t, "Can, "+what, can, got, false, e)
			span, got := house.Guests(b, n)
			want(t, "Guests, "+what, span, got, api.Span{}, e)
			span, got = house.Heads(b, n)
			want(t, "Heads, "+what, span, got, api.Span{}, e)
		}
		for _, list := range [][]api.NamePair{nil, {}, pairs(0, 2, 4, 5), pairs(-1, 7)} {
			is, got := house.IsTruth(b, list)
			want(t, "IsTruth, "+what, is, got, false, e)
		}
		n, got := house.Truths(b)
		want(t, "Truths, "+what, n, got, 0, e)
		total, got := house.Total(b)
		want(t, "Total, "+what, total, got, api.Span{}, e)
		twice, got := house.Twice(b)
		wantList(t, "Twice, "+what, twice, got, nil, e)
		n, got = house.Beds(b)
		want(t, "Beds, "+what, n, got, 0, e)
		wrong, got := house.Wrong(b)
		wantList(t, "Wrong, "+what, wrong, got, nil, e)
		n, got = house.Ask(b)
		want(t, "Ask, "+what, n, got, 0, e)
	}
}

// P8.1: which lines can be of one guest, in either order.
func TestCan(t *testing.T) {
	for _, x := range []struct {
		one, other int
		must       bool
	}{
		{0, 2, true}, {1, 3, true}, {4, 5, true}, {0, 3, false}, {0, 5, false}, {4, 2, false}, {1, 2, false},
		{0, 1, false}, {0, 4, false}, {2, 3, false}, {2, 5, false}, {0, 0, false}, {5, 5, false},
	} {
		got, e := house.Can(book(), x.one, x.other)
		want(t, fmt.Sprint("Can of ", x.one, x.other), got, e, x.must, api.OK)
		got, e = house.Can(book(), x.other, x.one)
		want(t, fmt.Sprint("Can of ", x.other, x.one), got, e, x.must, api.OK)
	}
	for what, b := range map[string]api.HouseBook{"of the chapter": book(), "without a truth": book(bowls(0, 9, 9))} {
		for _, n := range []int{-1, 6, 7, math.MinInt, math.MaxInt} {
			for _, m := range []int{0, 2, n} {
				got, e := house.Can(b, n, m)
				want(t, fmt.Sprint("Can of ", n, m, " of the house ", what), got, e, false, api.ErrHouseAsk)
				got, e = house.Can(b, m, n)
				want(t, fmt.Sprint("Can of ", m, n, " of the house ", what), got, e, false, api.ErrHouseAsk)
			}
		}
	}
	got, e := house.Can(alike(at(0)), 0, 0)
	want(t, "Can without lines", got, e, false, api.ErrHouseAsk)
	got, e = house.Can(book(bowls(0, 9, 9)), 0, 2)
	want(t, "Can without a truth", got, e, true, api.OK)
}

// P8.1: each of what lines must have in common, and how names are heard.
func TestCanByOneDifference(t *testing.T) {
	ear := api.NameEar{Alike: []string{"bp", "dt"}, Mute: "h", Slips: 1}
	for _, x := range []struct {
		what       string
		one, other api.HouseLine
		must       bool
	}{
		{"the same but for the brother", line(0, 1, 2, "peter"), line(1, 1, 2, "peter"), true},
		{"one brother", line(0, 1, 2, "peter"), line(0, 1, 2, "peter"), false},
		{"the other brother", line(1, 1, 2, "peter"), line(1, 1, 2, "peter"), false},
		{"another night", line(0, 1, 2, "peter"), line(1, 0, 2, "peter"), false},
		{"another town", line(0, 1, 2, "peter"), line(1, 1, 1, "peter"), false},
		{"night and town changed over", line(0, 1, 0, "peter"), line(1, 0, 1, "peter"), false},
		{"one letter", line(0, 1, 2, "peter"), line(1, 1, 2, "beter"), true},
		{"two letters", line(0, 1, 2, "beter"), line(1, 1, 2, "peder"), false},
		{"a mute letter", line(0, 1, 2, "hans"), line(1, 1, 2, "ans"), true},
		{"a mute letter and one more", line(0, 1, 2, "hdans"), line(1, 1, 2, "tans"), true},
		{"a letter that sounds in another way", line(0, 1, 2, "peter"), line(1, 1, 2, "meter"), false},
		{"a letter too many", line(0, 1, 2, "peter"), line(1, 1, 2, "petera"), false},
		{"names that are mute", line(0, 1, 2, "h"), line(1, 1, 2, "hhh"), true},
		{"another digit", line(0, 1, 2, "a1"), line(1, 1, 2, "a2"), false},
	} {
		b := with(spans(at(1), at(1)), x.one, x.other)
		b.Ear = ear
		got, e := house.Can(b, 0, 1)
		want(t, "Can, "+x.what, got, e, x.must, api.OK)
		got, e = house.Can(b, 1, 0)
		want(t, "Can the other way round, "+x.what, got, e, x.must, api.OK)
	}
}

// P8.2: which lists are truths.
func TestIsTruth(t *testing.T) {
	wide := book(bowls(0, 0, 99), bowls(1, 0, 99))
	turned := alike(to(0, 99), 1, 0, 1, 0)
	for _, x := range []struct {
		what string
		b    api.HouseBook
		list []api.NamePair
		must bool
	}{
		{"all pairs", book(), pairs(0, 2, 1, 3, 4, 5), true},
		{"one pair less", book(), pairs(0, 2, 4, 5), true},
		{"the other one less", book(), pairs(1, 3, 4, 5), true},
		{"too few pairs in the night 0", book(), pairs(4, 5), false},
		{"too few pairs in the night 1", book(), pairs(0, 2, 1, 3), false},
		{"no pairs", book(), nil, false},
		{"no pairs, with any bowls", wide, nil, true},
		{"no pairs, an empty list", wide, []api.NamePair{}, true},
		{"as many guests as lines", book(bowls(0, 4, 4)), pairs(4, 5), true},
		{"more guests than bowls", book(bowls(0, 0, 3)), pairs(4, 5), false},
		{"fewer guests than bowls", book(bowls(0, 3, 9)), pairs(0, 2, 1, 3, 4, 5), false},
		{"in the wrong order", wide, pairs(4, 5, 0, 2), false},
		{"in the wrong order, of one night", wide, pairs(1, 3, 0, 2), false},
		{"the other line first", wide, pairs(2, 0), false},
		{"lines of one brother", wide, pairs(0, 1), false},
		{"a line and itself", wide, pairs(0, 0), false},
		{"lines of two nights", wide, pairs(0, 5), false},
		{"lines of two towns", wide, pairs(0, 3), false},
		{"a good pair and a bad one", wide, pairs(0, 2, 1, 5), false},
		{"a pair twice", wide, pairs(0, 2, 0, 2), false},
		{"a pair twice, behind others", wide, pairs(0, 2, 4, 5, 4, 5), false},
		{"a line behind the last one", wide, pairs(0, 6), false},
		{"a line below 0", wide, pairs(0, -1), false},
		{"one below 0", wide, pairs(-1, 2), false},
		{"one behind the last one", wide, pairs(6, 2), false},
		{"both behind the last one", wide, pairs(0, 2, 7, 8), false},
		{"numbers at the ends", wide, pairs(math.MinInt, math.MaxInt), false},
		{"a good pair, and numbers at the ends", wide, pairs(0, 2, math.MaxInt, math.MinInt), false},
		{"many pairs", wide, slices.Repeat(pairs(0, 2), 100000), false},
		{"one in two pairs", alike(to(0, 99), 0, 1, 1), pairs(0, 1, 0, 2), false},
		{"the other one in two pairs", alike(to(0, 99), 0, 0, 1), pairs(0, 2, 1, 2), false},
		{"One behind Other", turned, pairs(1, 0, 3, 2), true},
		{"Other not increasing", turned, pairs(1, 2, 3, 0), true},
		{"Other increasing, One not", turned, pairs(3, 0, 1, 2), false},
		{"no lines, no pairs", alike(at(0)), nil, true},
		{"no lines, no pairs, but bowls", alike(at(1)), nil, false},
		{"no lines, a pair", alike(at(0)), pairs(0, 0), false},
		{"a night without lines, and bowls", with(spans(at(1), at(1)), line(0, 0, 0, "a")), nil, false},
		{"nights that take turns", with(spans(at(1), at(1)), line(0, 1, 0, "a"), line(0, 0, 0, "a"), line(1, 0, 0, "a"), line(1, 1, 0, "a")), pairs(0, 3, 1, 2), true},
		{"nights that take turns, paired across", with(spans(at(1), at(1)), line(0, 1, 0, "a"), line(0, 0, 0, "a"), line(1, 0, 0, "a"), line(1, 1, 0, "a")), pairs(0, 2, 1, 3), false},
	} {
		got, e := house.IsTruth(x.b, x.list)
		want(t, "IsTruth, "+x.what, got, e, x.must, api.OK)
	}
}

// bookCase is a house, and what is so of all its truths.
type bookCase struct {
	what   string
	b      api.HouseBook
	truths int
	guests []api.Span
	heads  []api.Span // of the first towns; those of the others are 0
	twice  []api.NamePair
	beds   int
	wrong  []int
	ask    int // -1: there is just one truth
}

func bookCases() []bookCase {
	five := with(spans(at(1), to(1, 2), at(2), to(0, 1), at(0)),
		line(0, 0, 0, "a"), line(1, 0, 0, "a"), line(0, 1, 1, "a"), line(1, 1, 1, "a"), line(0, 2, 2, "a"), line(1, 2, 2, "a"), line(0, 3, 3, "a"))
	return []bookCase{
		{"of the chapter", book(), 3, spans(to(2, 3), at(1)), spans(to(2, 3), to(1, 2)), pairs(4, 5), 3, nil, 0},
		{"with 5 bowls", book(bowls(0, 5, 5)), 0, nil, nil, nil, 0, []int{0}, 0},
		{"with 1 bowl", book(bowls(0, 0, 1)), 0, nil, nil, nil, 0, []int{0}, 0},
		{"with any bowls", book(bowls(0, 0, 99)), 4, spans(to(2, 4), at(1)), spans(to(2, 3), to(1, 2)), pairs(4, 5), 4, nil, 0},
		{"with any bowls at all", book(bowls(0, 0, 99), bowls(1, 0, 99)), 8, spans(to(2, 4), to(1, 2)), spans(to(2, 4), to(1, 2)), nil, 4, nil, 0},
		{"with just 2 bowls", book(bowls(0, 2, 2)), 1, spans(at(2), at(1)), spans(at(2), at(1)), pairs(0, 2, 1, 3, 4, 5), 2, nil, -1},
		{"with just 3 bowls", book(bowls(0, 3, 3)), 2, spans(at(3), at(1)), spans(to(2, 3), to(1, 2)), pairs(4, 5), 3, nil, 0},
		{"with just 4 bowls", book(bowls(0, 4, 4)), 1, spans(at(4), at(1)), spans(at(3), at(2)), pairs(4, 5), 4, nil, -1},
		{"with other bowls in the night 1", book(bowls(1, 0, 0)), 0, nil, nil, nil, 0, []int{1}, 0},
		{"with other bowls in both", book(bowls(0, 5, 9), bowls(1, 3, 99)), 0, nil, nil, nil, 0, []int{0, 1}, 0},
		{"no lines", alike(at(0)), 1, spans(at(0)), nil, nil, 0, nil, -1},
		{"no lines, any bowls", alike(to(0, 99)), 1, spans(at(0)), nil, nil, 0, nil, -1},
		{"no lines, but bowls", alike(to(1, 99)), 0, nil, nil, nil, 0, []int{0}, 0},
		{"no lines, and bowls in some nights", with(spans(at(1), at(0), at(2), at(0), to(3, 4))), 0, nil, nil, nil, 0, []int{0, 2, 4}, 0},
		{"one line", alike(at(1), 1), 1, spans(at(1)), spans(at(1)), nil, 1, nil, -1},
		{"a pair, or two guests", alike(to(1, 2), 0, 1), 2, spans(to(1, 2)), spans(to(1, 2)), nil, 2, nil, 0},
		{"a pair", alike(at(1), 0, 1), 1, spans(at(1)), spans(at(1)), pairs(0, 1), 1, nil, -1},
		{"a pair, the brother 1 first", alike(at(1), 1, 0), 1, spans(at(1)), spans(at(1)), pairs(1, 0), 1, nil, -1},
		{"two guests", alike(at(2), 0, 1), 1, spans(at(2)), spans(at(2)), nil, 2, nil, -1},
		{"three lines", alike(to(1, 3), 0, 1, 1), 3, spans(to(2, 3)), spans(to(2, 3)), nil, 3, nil, 0},
		{"two and two", alike(to(0, 9), 0, 0, 1, 1), 7, spans(to(2, 4)), spans(to(2, 4)), nil, 4, nil, 0},
		{"two and two, just two guests", alike(at(2), 1, 0, 0, 1), 2, spans(at(2)), spans(at(2)), nil, 2, nil, 0},
		{"ten of one brother", alike(at(10), 0, 0, 0, 0, 0, 0, 0, 0, 0, 0), 1, spans(at(10)), spans(at(10)), nil, 10, nil, -1},
		{"ten of one brother, nine bowls", alike(to(0, 9), 1, 1, 1, 1, 1, 1, 1, 1, 1, 1), 0, nil, nil, nil, 0, []int{0}, 0},
		{"as many as can be", alike(to(0, 99), 0, 0, 0, 0, 0, 1, 1, 1, 1, 1), 1546, spans(to(5, 10)), spans(to(5, 10)), nil, 10, nil, 0},
		{"as many as can be, all paired", alike(to(0, 5), 0, 1, 0, 1, 0, 1, 0, 1, 0, 1), 120, spans(at(5)), spans(at(5)), nil, 5, nil, 0},
		{"five nights", five, 2, spans(at(1), to(1, 2), at(2), at(1), at(0)), spans(at(1), to(1, 2), at(2), at(1)), pairs(0, 1), 2, nil, 2},
		{"the most guests in the first night", with(spans(at(3), at(1)), line(0, 0, 0, "a"), line(0, 0, 0, "b"), line(1, 0, 3, "a"), line(1, 1, 3, "a")), 1, spans(at(3), at(1)), spans(at(2), at(0), at(0), at(2)), nil, 3, nil, -1},
		{"towns that can be less, but not both", with(spans(at(3)), line(0, 0, 1, "a"), line(1, 0, 1, "a"), line(0, 0, 2, "a"), line(1, 0, 2, "a")), 2, spans(at(3)), spans(at(0), to(1, 2), to(1, 2)), nil, 3, nil, 0},
		{"pairs by One, of two nights", with(spans(at(1), at(1)), line(1, 0, 0, "a"), line(0, 1, 0, "a"), line(0, 0, 0, "a"), line(1, 1, 0, "a")), 1, spans(at(1), at(1)), spans(at(2)), pairs(1, 3, 2, 0), 1, nil, -1},
	}
}

// P8.2 to P8.7, R3, R6: all truths of a house, and what is so of them.
func TestTruths(t *testing.T) {
	for _, x := range bookCases() {
		code, asked, ask := api.OK, api.OK, x.ask
		var total api.Span
		switch {
		case x.truths == 0:
			code, asked = api.ErrHouseNot, api.ErrHouseNot
		case x.ask < 0:
			asked, ask = api.ErrNone, 0
		}
		n, e := house.Truths(x.b)
		want(t, "Truths, "+x.what, n, e, x.truths, api.OK)
		for night := range x.b.Bowls {
			var must api.Span
			if code == api.OK {
				must = x.guests[night]
			}
			total.Low, total.High = total.Low+must.Low, total.High+must.High
			got, e := house.Guests(x.b, night)
			want(t, fmt.Sprint("Guests of ", night, ", ", x.what), got, e, must, code)
		}
		for town := range x.b.Towns {
			var must api.Span
			if town < len(x.heads) {
				must = x.heads[town]
			}
			got, e := house.Heads(x.b, town)
			want(t, fmt.Sprint("Heads of ", town, ", ", x.what), got, e, must, code)
		}
		got, e := house.Total(x.b)
		want(t, "Total, "+x.what, got, e, total, code)
		twice, e := house.Twice(x.b)
		wantList(t, "Twice, "+x.what, twice, e, x.twice, code)
		n, e = house.Beds(x.b)
		want(t, "Beds, "+x.what, n, e, x.beds, code)
		wrong, e := house.Wrong(x.b)
		wantList(t, "Wrong, "+x.what, wrong, e, x.wrong, api.OK)
		n, e = house.Ask(x.b)
		want(t, "Ask, "+x.what, n, e, ask, asked)
	}
}

// P8.4: the example of the chapter.
func TestTotalOfTheChapter(t *testing.T) {
	got, e := house.Total(book())
	want(t, "Total", got, e, to(3, 4), api.OK)
}

// P8.3, P8.4, P1, R1, R2: wrong questions come before that there is no truth.
func TestWrongQuestions(t *testing.T) {
	for what, b := range map[string]api.HouseBook{"of the chapter": book(), "without a truth": book(bowls(0, 9, 9))} {
		for _, n := range []int{-1, 2, 3, 4, 5, math.MinInt, math.MaxInt} {
			got, e := house.Guests(b, n)
			want(t, fmt.Sprint("Guests of ", n, " of the house ", what), got, e, api.Span{}, api.ErrHouseAsk)
			got, e = house.Heads(b, n)
			want(t, fmt.Sprint("Heads of ", n, " of the house ", what), got, e, api.Span{}, api.ErrHouseAsk)
		}
	}
	// as many nights as there are, and as many towns
	three := book(func(b *api.HouseBook) { b.Bowls, b.Towns = append(b.Bowls, at(0)), 4 })
	got, e := house.Guests(three, 2)
	want(t, "Guests of a night without lines", got, e, at(0), api.OK)
	got, e = house.Guests(three, 3)
	want(t, "Guests of a night more", got, e, api.Span{}, api.ErrHouseAsk)
	got, e = house.Heads(three, 3)
	want(t, "Heads of a town without lines", got, e, at(0), api.OK)
	got, e = house.Heads(three, 4)
	want(t, "Heads of a town more", got, e, api.Span{}, api.ErrHouseAsk)
	one := alike(at(0))
	one.Towns = 1
	got, e = house.Guests(one, 1)
	want(t, "Guests of the night 1 of one", got, e, api.Span{}, api.ErrHouseAsk)
	got, e = house.Heads(one, 1)
	want(t, "Heads of the town 1 of one", got, e, api.Span{}, api.ErrHouseAsk)
}

// P8.3: one night without a truth leaves none to any other one.
func TestNoTruthAtAll(t *testing.T) {
	b := book(bowls(1, 5, 5))
	got, e := house.Guests(b, 0)
	want(t, "Guests of a night that is right", got, e, api.Span{}, api.ErrHouseNot)
	n, e := house.Truths(b)
	want(t, "Truths", n, e, 0, api.OK)
	for _, list := range [][]api.NamePair{pairs(0, 2), pairs(0, 2, 1, 3), pairs(0, 2, 4, 5)} {
		is, e := house.IsTruth(b, list)
		want(t, fmt.Sprint("IsTruth ", list), is, e, false, api.OK)
	}
}

// P8.7: the first line is not always the best one; all other nights count, too, and the worst answer decides.
func TestAsk(t *testing.T) {
	for _, x := range []struct {
		what string
		b    api.HouseBook
		must int
	}{
		{"the lines before are sure", book(bowls(0, 2, 2), bowls(1, 1, 2)), 4},
		{"one that can have many matches", alike(to(0, 99), 1, 1, 1, 0), 3},
		{"one that can have many matches, first", alike(to(0, 99), 0, 1, 1, 1), 0},
		{"equally good ones", alike(to(0, 99), 1, 0, 1, 0), 0},
		{"lines that can be of nobody else", with(spans(to(0, 99)), line(0, 0, 0, "b"), line(1, 0, 1, "b"), line(1, 0, 2, "a"), line(0, 0, 2, "a")), 2},
		// Of the lines 0 and 1 one half of all truths is left, of the line 2 a third.
		{"a night with more to be told behind one with less", with(spans(to(0, 99), to(0, 99)), line(0, 0, 0, "a"), line(1, 0, 0, "a"), line(0, 1, 0, "a"), line(1, 1, 0, "a"), line(1, 1, 0, "a")), 2},
		{"a night with more to be told before one with less", with(spans(to(0, 99), to(0, 99)), line(0, 1, 0, "a"), line(1, 1, 0, "a"), line(0, 0, 0, "a"), line(1, 0, 0, "a"), line(1, 0, 0, "a")), 2},
		// The night 1 has fewer truths, but what is known of it leaves more of all.
		{"a night with fewer truths", with(spans(to(0, 99), to(0, 99)), line(0, 1, 0, "a"), line(1, 1, 0, "a"), line(0, 0, 0, "a"), line(0, 0, 0, "a"), line(1, 0, 0, "a"), line(1, 0, 0, "a")), 2},
	} {
		got, e := house.Ask(x.b)
		want(t, "Ask, "+x.what, got, e, x.must, api.OK)
	}
}

// P8.6: a night without lines that had bowls is wrong, and one in which too few can be paired.
func TestWrong(t *testing.T) {
	for _, x := range []struct {
		what string
		b    api.HouseBook
		must []int
	}{
		{"of the chapter", book(), nil},
		{"5 bowls", book(bowls(0, 5, 5)), []int{0}},
		{"names that cannot be paired", book(func(b *api.HouseBook) { b.Lines[5].Heard = "hans" }), []int{1}},
		{"towns that cannot be paired", book(func(b *api.HouseBook) { b.Lines[5].Town = 1 }), []int{1}},
		{"a line that was of another night", book(func(b *api.HouseBook) { b.Lines[5].Night = 0 }), nil},
		{"fewer slips", book(func(b *api.HouseBook) { b.Ear.Slips = 0 }), []int{1}},
		{"all five nights", with(spans(at(1), at(1), at(2), at(99), to(1, 99))), []int{0, 1, 2, 3, 4}},
		{"the first and the last night", with(spans(at(1), at(0), at(0), at(0), at(1))), []int{0, 4}},
		{"just between what can be", alike(to(3, 4), 0, 0, 1, 1), nil},
		{"just above what can be", alike(to(5, 6), 0, 0, 1, 1), []int{0}},
		{"just below what can be", alike(to(0, 1), 0, 0, 1, 1), []int{0}},
	} {
		got, e := house.Wrong(x.b)
		wantList(t, "Wrong, "+x.what, got, e, x.must, api.OK)
	}
}

// ask asks everything of a house.
func ask(b api.HouseBook) string {
	truths, e1 := house.Truths(b)
	total, e2 := house.Total(b)
	twice, e3 := house.Twice(b)
	beds, e4 := house.Beds(b)
	wrong, e5 := house.Wrong(b)
	best, e6 := house.Ask(b)
	list := []string{fmt.Sprint(house.Check(b), truths, e1, total, e2, twice, e3, beds, e4, wrong, e5, best, e6)}
	for one := range b.Lines {
		for other := range b.Lines {
			can, e1 := house.Can(b, one, other)
			is, e2 := house.IsTruth(b, pairs(one, other))
			list = append(list, fmt.Sprint(can, e1, is, e2))
		}
	}
	for n := range api.HouseNights + 1 {
		guests, e1 := house.Guests(b, n)
		heads, e2 := house.Heads(b, n)
		list = append(list, fmt.Sprint(guests, e1, heads, e2))
	}
	return strings.Join(list, "; ")
}

// R3: between nil and empty there is no difference.
func TestNilAndEmpty(t *testing.T) {
	none := alike(to(0, 3))
	empty := none
	empty.Ear.Alike, empty.Lines = []string{}, []api.HouseLine{}
	if one, other := ask(none), ask(empty); one != other {
		t.Errorf("%s with nil, %s with empty lists", one, other)
	}
	for _, b := range []api.HouseBook{none, empty} {
		for _, list := range [][]api.NamePair{nil, {}} {
			got, e := house.IsTruth(b, list)
			want(t, "IsTruth", got, e, true, api.OK)
		}
	}
}
