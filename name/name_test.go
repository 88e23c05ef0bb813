package name_test

import (
	"math"
	"slices"
	"strings"
	"testing"

	"clavendier/api"
	"clavendier/name"
)

func to(low, high int) api.Span { return api.Span{Low: low, High: high} }

func at(n int) api.Span { return to(n, n) }

func line(book, minute int, heard string) api.NameLine {
	return api.NameLine{Book: book, Minute: minute, Heard: heard}
}

// pairs is a list of pairs: one, other, one, other and so on.
func pairs(lines ...int) []api.NamePair {
	var list []api.NamePair
	for i := 0; i < len(lines); i += 2 {
		list = append(list, api.NamePair{One: lines[i], Other: lines[i+1]})
	}
	return list
}

// ear is the ear of the chapter, with its slips.
func ear(slips int) api.NameEar {
	return api.NameEar{Alike: []string{"bp", "dt"}, Mute: "h", Slips: slips}
}

// book is the books of the chapter, with what can be lost.
func book(lost int) api.NameBook {
	return api.NameBook{
		Ear: ear(1),
		Lines: []api.NameLine{
			line(0, 500, "peter"), line(0, 520, "hans"), line(1, 620, "beter"), line(1, 640, "ans"), line(1, 630, "peder"),
		},
		Way:  to(90, 150),
		Lost: lost,
	}
}

// alike is books of lines of one name and one minute, of these books.
func alike(lost int, books ...int) api.NameBook {
	b := api.NameBook{Lost: lost}
	for _, n := range books {
		b.Lines = append(b.Lines, line(n, 700, "a"))
	}
	return b
}

// changed is the books of the chapter, changed.
func changed(change func(b *api.NameBook)) api.NameBook {
	b := book(1)
	change(&b)
	return b
}

// wrongEars are ears that are not valid.
func wrongEars() map[string]api.NameEar {
	return map[string]api.NameEar{
		"five groups":                      {Alike: []string{"ab", "cd", "ef", "gh", "ij"}},
		"a group without letters":          {Alike: []string{""}},
		"a group of one letter":            {Alike: []string{"ab", "c"}},
		"a group of five letters":          {Alike: []string{"abcde"}},
		"a group of far too many letters":  {Alike: []string{strings.Repeat("abcdefg", 1000)}},
		"a letter twice in a group":        {Alike: []string{"aba"}},
		"a letter in two groups":           {Alike: []string{"ab", "cd", "eb"}},
		"a great letter in a group":        {Alike: []string{"aB"}},
		"a digit in a group":               {Alike: []string{"a1"}},
		"the byte below a in a group":      {Alike: []string{"b`"}},
		"the byte above z in a group":      {Alike: []string{"y{"}},
		"a space in a group":               {Alike: []string{"a b"}},
		"another alphabet in a group":      {Alike: []string{"a\u00e4"}},
		"a byte that is no text, in one":   {Alike: []string{"a\xff"}},
		"four mute letters":                {Mute: "abcd"},
		"a letter twice among the mute":    {Mute: "hah"},
		"a great letter among the mute":    {Mute: "H"},
		"a digit among the mute":           {Mute: "h1"},
		"the byte below a among the mute":  {Mute: "`"},
		"the byte above z among the mute":  {Mute: "{"},
		"another alphabet among the mute":  {Mute: "\u00e4"},
		"a zero byte among the mute":       {Mute: "\x00"},
		"slips below 0":                    {Slips: -1},
		"four slips":                       {Slips: 4},
		"the least slips":                  {Slips: math.MinInt},
		"the greatest slips":               {Slips: math.MaxInt},
		"a wrong group behind good ones":   {Alike: []string{"ab", "cd", "ee"}, Mute: "h", Slips: 1},
		"all of it wrong":                  {Alike: []string{"a"}, Mute: "1", Slips: 9},
		"good groups, but for their count": {Alike: slices.Repeat([]string{"ab"}, 5)},
	}
}

// wrongBooks are books that are not valid.
func wrongBooks() map[string]api.NameBook {
	with := func(lines ...api.NameLine) api.NameBook {
		return changed(func(b *api.NameBook) { b.Lines = lines })
	}
	way := func(s api.Span) api.NameBook { return changed(func(b *api.NameBook) { b.Way = s }) }
	list := map[string]api.NameBook{
		"ten lines":                     with(slices.Repeat([]api.NameLine{line(0, 500, "peter")}, 10)...),
		"a book below 0":                with(line(-1, 500, "peter")),
		"a book 2":                      with(line(0, 500, "peter"), line(2, 600, "peter")),
		"the least book":                with(line(math.MinInt, 500, "peter")),
		"the greatest book":             with(line(math.MaxInt, 500, "peter")),
		"a minute below 0":              with(line(0, -1, "peter")),
		"a minute behind the day":       with(line(0, 500, "peter"), line(1, 1440, "peter")),
		"the least minute":              with(line(0, math.MinInt, "peter")),
		"the greatest minute":           with(line(0, math.MaxInt, "peter")),
		"a wrong line behind good ones": with(line(0, 1, "a"), line(1, 1, "a"), line(1, 1440, "a")),
		"a Way below 0":                 way(to(-1, 150)),
		"a Way behind the day":          way(to(90, 1440)),
		"a Way the wrong way round":     way(to(91, 90)),
		"the widest Way":                way(to(math.MinInt, math.MaxInt)),
		"a Way from the greatest":       way(to(math.MaxInt, math.MinInt)),
		"less than none lost":           book(-1),
		"ten lost":                      book(10),
		"the least lost":                book(math.MinInt),
		"the greatest lost":             book(math.MaxInt),
	}
	for what, heard := range wrongNames() {
		list["a line with "+what] = with(line(0, 500, "peter"), line(1, 600, heard))
	}
	for what, e := range wrongEars() {
		list["an ear with "+what] = changed(func(b *api.NameBook) { b.Ear = e })
	}
	return list
}

// wrongNames are texts that are no names.
func wrongNames() map[string]string {
	return map[string]string{
		"no bytes":               "",
		"thirteen bytes":         "abcdefghijklm",
		"far too many bytes":     strings.Repeat("a", 70000),
		"a digit first":          "1peter",
		"a great letter":         "Peter",
		"a great letter behind":  "petEr",
		"a space":                "pe ter",
		"the byte below a":       "`peter",
		"the byte above z":       "peter{",
		"the byte below 0":       "peter/",
		"the byte above 9":       "peter:",
		"a sign":                 "peter-1",
		"another alphabet":       "p\u00e9ter",
		"a byte that is no text": "peter\xff",
		"a zero byte":            "peter\x00",
		"digits of another kind": "peter\u0661",
	}
}

// want reports what a call returned, if it is not what was to be.
func want[T comparable](t *testing.T, call string, got T, e api.Errno, must T, code api.Errno) {
	t.Helper()
	if got != must || e != code {
		t.Errorf("%s: %v, error %d; not %v, error %d", call, got, e, must, code)
	}
}

// wantList does the same with lists.
func wantList[T comparable](t *testing.T, call string, got []T, e api.Errno, must []T, code api.Errno) {
	t.Helper()
	if !slices.Equal(got, must) || e != code {
		t.Errorf("%s: %v, error %d; not %v, error %d", call, got, e, must, code)
	}
}

// P2.1, R7: ears that are valid, up to their ends.
func TestEars(t *testing.T) {
	for i, e := range []api.NameEar{
		{}, ear(0), ear(3),
		{Alike: []string{}},
		{Alike: []string{"abcd", "efgh", "ijkl", "wxyz"}, Mute: "qrs", Slips: 3},
		{Alike: []string{"az", "za"}[:1]},
		{Alike: []string{"bpv", "hx"}, Mute: "hbz"}, // a mute letter can be in a group, too
		{Mute: "a"}, {Mute: "z"},
	} {
		if got := name.CheckEar(e); got != api.OK {
			t.Errorf("the ear %d: error %d", i, got)
		}
		b := changed(func(b *api.NameBook) { b.Ear = e })
		if got := name.Check(b); got != api.OK {
			t.Errorf("books with the ear %d: error %d", i, got)
		}
	}
	for what, e := range wrongEars() {
		if got := name.CheckEar(e); got != api.ErrName {
			t.Errorf("CheckEar, %s: error %d", what, got)
		}
		for _, text := range []string{"peter", "", "1", "abcdefghijklm"} {
			n, got := name.Near(e, text, "peter")
			want(t, "Near, "+what, n, got, 0, api.ErrName)
			n, got = name.Near(e, "hans", text)
			want(t, "Near, "+what, n, got, 0, api.ErrName)
		}
	}
}

// P2.1, R9: how many letters names are apart.
func TestNear(t *testing.T) {
	abcd := func(slips int) api.NameEar { return api.NameEar{Alike: []string{"abcd"}, Slips: slips} }
	mute := func(letters string) api.NameEar { return api.NameEar{Alike: []string{"hx"}, Mute: letters, Slips: 3} }
	for _, x := range []struct {
		e          api.NameEar
		one, other string
		must       int
		code       api.Errno
	}{
		{ear(1), "peter", "beter", 1, api.OK},
		{ear(1), "hans", "ans", 0, api.OK},
		{ear(1), "beter", "peder", 0, api.ErrNone},
		{ear(1), "peter", "hans", 0, api.ErrNone},
		{ear(2), "beter", "peder", 2, api.OK},
		{ear(0), "peter", "beter", 0, api.ErrNone},
		{ear(0), "peter", "peter", 0, api.OK},
		{ear(0), "hans", "ans", 0, api.OK}, // mute letters are no slips
		{ear(3), "hhhh", "h", 0, api.OK},
		{ear(3), "h", "hhhhhhhhhhhh", 0, api.OK},
		{ear(3), "h", "a", 0, api.ErrNone},
		{ear(3), "h", "h1", 0, api.ErrNone},
		{ear(3), "hahnhsh", "ans", 0, api.OK},
		{ear(3), "peter", "pete", 0, api.ErrNone},
		{ear(3), "peter", "eter", 0, api.ErrNone},
		{ear(3), "peter", "peterp", 0, api.ErrNone},
		{ear(3), "peter", "meter", 0, api.ErrNone},
		{ear(3), "peter", "teper", 0, api.ErrNone},   // p and t are in two groups
		{ear(3), "beter", "bebep", 0, api.ErrNone},   // t and b
		{ear(3), "peter1", "beter1", 1, api.OK},      // digits as they are
		{ear(3), "peter1", "peter2", 0, api.ErrNone}, // and none sound alike
		{ear(3), "p1", "p", 0, api.ErrNone},
		{ear(3), "a1", "ab", 0, api.ErrNone},
		{ear(3), "pppp", "bbbp", 3, api.OK},
		{ear(3), "pppp", "bbbb", 0, api.ErrNone},
		{abcd(2), "ad", "db", 2, api.OK},
		{abcd(1), "ad", "db", 0, api.ErrNone},
		{abcd(3), "abc", "dca", 3, api.OK},
		{abcd(3), "abce", "abcf", 0, api.ErrNone},
		{mute("h"), "hans", "xans", 0, api.ErrNone}, // h is mute before it can sound like x
		{mute("h"), "xa", "hxa", 0, api.OK},
		{mute("x"), "hans", "xans", 0, api.ErrNone},
		{mute("hx"), "hans", "xans", 0, api.OK},
		{mute(""), "hans", "xans", 1, api.OK},
		{mute("hns"), "hans", "a", 0, api.OK},
		{mute("abc"), "abcabc", "cba", 0, api.OK},
		{api.NameEar{}, "hans", "hans", 0, api.OK},
		{api.NameEar{}, "hans", "ans", 0, api.ErrNone},
		{api.NameEar{Slips: 3}, "hans", "hanz", 0, api.ErrNone}, // slips alone make nothing sound alike
		{api.NameEar{}, "abcdefghijkl", "abcdefghijkl", 0, api.OK},
		{api.NameEar{}, "a0123456789z", "a0123456789z", 0, api.OK},
	} {
		got, e := name.Near(x.e, x.one, x.other)
		want(t, "Near "+x.one+" "+x.other, got, e, x.must, x.code)
		got, e = name.Near(x.e, x.other, x.one)
		want(t, "Near "+x.other+" "+x.one, got, e, x.must, x.code)
	}
	for what, text := range wrongNames() {
		for _, other := range []string{"peter", "h", text} {
			got, e := name.Near(ear(1), text, other)
			want(t, "Near, one with "+what, got, e, 0, api.ErrNameAsk)
			got, e = name.Near(ear(1), other, text)
			want(t, "Near, the other one with "+what, got, e, 0, api.ErrNameAsk)
		}
	}
}

// P2.2, R7: books that are valid, up to their ends.
func TestBooks(t *testing.T) {
	for i, b := range []api.NameBook{
		{}, book(0), book(9), alike(9, 0, 0, 0, 0, 1, 1, 1, 1, 1),
		{Lines: []api.NameLine{line(0, 0, "a"), line(1, 1439, "abcdefghijkl")}, Way: to(0, 1439)},
		{Way: at(0)}, {Way: at(1439)},
		{Lines: []api.NameLine{line(1, 5, "a0"), line(1, 5, "z9"), line(1, 5, "a0")}},
	} {
		if e := name.Check(b); e != api.OK {
			t.Errorf("the books %d: error %d", i, e)
		}
	}
}

// P2.2, P2.3, P2.4, P1, R1, R2, R8: wrong books are the first error of all functions, with nothing else.
func TestWrongBooks(t *testing.T) {
	const e = api.ErrName
	for what, b := range wrongBooks() {
		if got := name.Check(b); got != e {
			t.Errorf("Check, %s: error %d", what, got)
		}
		for _, n := range []int{0, 1, -1, 10, math.MinInt, math.MaxInt} {
			can, got := name.Can(b, n, 1)
			want(t, "Can, "+what, can, got, false, e)
			can, got = name.Can(b, 0, n)
			want(t, "Can, "+what, can, got, false, e)
			kind, got := name.Kind(b, n, 1)
			want(t, "Kind, "+what, kind, got, 0, e)
			kind, got = name.Kind(b, 0, n)
			want(t, "Kind, "+what, kind, got, 0, e)
		}
		for _, list := range [][]api.NamePair{nil, {}, pairs(0, 1), pairs(-1, 7)} {
			is, got := name.IsTruth(b, list)
			want(t, "IsTruth, "+what, is, got, false, e)
		}
		n, got := name.Truths(b)
		want(t, "Truths, "+what, n, got, 0, e)
		joined, got := name.Joined(b)
		wantList(t, "Joined, "+what, joined, got, nil, e)
		people, got := name.People(b)
		want(t, "People, "+what, people, got, api.Span{}, e)
		wrong, got := name.Wrong(b)
		wantList(t, "Wrong, "+what, wrong, got, nil, e)
		n, got = name.Ask(b)
		want(t, "Ask, "+what, n, got, 0, e)
	}
}

// P2.2: which lines can be of one person.
func TestCan(t *testing.T) {
	for _, x := range []struct {
		one, other int
		must       bool
		code       api.Errno
	}{
		{0, 2, true, api.OK}, {0, 4, true, api.OK}, {1, 3, true, api.OK}, {2, 4, false, api.OK}, {4, 0, true, api.OK},
		{2, 0, true, api.OK}, {3, 1, true, api.OK}, {0, 1, false, api.OK}, {0, 3, false, api.OK}, {1, 2, false, api.OK},
		{0, 0, false, api.OK}, {4, 4, false, api.OK},
		{0, 5, false, api.ErrNameAsk}, {5, 0, false, api.ErrNameAsk}, {-1, 2, false, api.ErrNameAsk}, {0, -1, false, api.ErrNameAsk},
		{5, 5, false, api.ErrNameAsk}, {math.MinInt, 2, false, api.ErrNameAsk}, {0, math.MaxInt, false, api.ErrNameAsk},
	} {
		got, e := name.Can(book(1), x.one, x.other)
		want(t, "Can of "+string(rune('A'+x.one))+string(rune('A'+x.other)), got, e, x.must, x.code)
	}
	got, e := name.Can(api.NameBook{}, 0, 0)
	want(t, "Can without lines", got, e, false, api.ErrNameAsk)
	same := api.NameBook{Lines: []api.NameLine{line(1, 5, "a"), line(1, 5, "a")}}
	got, e = name.Can(same, 0, 1)
	want(t, "Can of equal lines of one book", got, e, false, api.OK)
}

// P2.2: minutes differ by a number in Way, whichever line is the later one.
func TestCanByMinutes(t *testing.T) {
	for i, x := range []struct {
		way        api.Span
		one, other int
		must       bool
	}{
		{to(90, 150), 500, 590, true}, {to(90, 150), 500, 589, false}, {to(90, 150), 500, 650, true}, {to(90, 150), 500, 651, false},
		{to(90, 150), 500, 410, true}, {to(90, 150), 500, 411, false}, {to(90, 150), 500, 350, true}, {to(90, 150), 500, 349, false},
		{to(90, 150), 500, 500, false}, {at(0), 500, 500, true}, {at(0), 500, 501, false}, {at(0), 501, 500, false},
		{at(1439), 0, 1439, true}, {at(1439), 1439, 0, true}, {at(1439), 1, 1439, false}, {to(0, 1439), 0, 1439, true}, {at(60), 1439, 59, false},
	} {
		b := api.NameBook{Lines: []api.NameLine{line(0, x.one, "a"), line(1, x.other, "a")}, Way: x.way}
		got, e := name.Can(b, 0, 1)
		want(t, "Can, case "+string(rune('A'+i)), got, e, x.must, api.OK)
		got, e = name.Can(b, 1, 0)
		want(t, "Can the other way round, case "+string(rune('A'+i)), got, e, x.must, api.OK)
	}
}

// P2.3: which lists are truths.
func TestIsTruth(t *testing.T) {
	turned := alike(9, 1, 0, 1, 0)
	for _, x := range []struct {
		what string
		b    api.NameBook
		list []api.NamePair
		must bool
	}{
		{"a truth of the chapter", book(1), pairs(0, 2, 1, 3), true},
		{"the other one", book(1), pairs(0, 4, 1, 3), true},
		{"too few pairs", book(1), pairs(0, 2), false},
		{"in the wrong order", book(1), pairs(1, 3, 0, 2), false},
		{"in the wrong order, with enough that can be lost", book(9), pairs(1, 3, 0, 2), false},
		{"as many lost as can be", book(3), pairs(0, 2), true},
		{"one more lost than can be", book(2), pairs(0, 2), false},
		{"no pairs", book(5), nil, true},
		{"no pairs, one more lost than can be", book(4), nil, false},
		{"no pairs, an empty list", book(5), []api.NamePair{}, true},
		{"the other line first", book(9), pairs(2, 0), false},
		{"lines of one book", book(9), pairs(0, 1), false},
		{"a line twice, one in two pairs", book(9), pairs(0, 2, 0, 4), false},
		{"a pair twice", book(9), pairs(0, 2, 0, 2), false},
		{"the other line in two pairs", alike(9, 0, 0, 1), pairs(0, 2, 1, 2), false},
		{"lines that cannot be of one person", book(9), pairs(0, 3), false},
		{"a good pair and a bad one", book(9), pairs(0, 2, 1, 4), false},
		{"a line behind the last one", book(9), pairs(0, 5), false},
		{"a line below 0", book(9), pairs(0, -1), false},
		{"one below 0", book(9), pairs(-1, 2), false},
		{"one behind the last one", book(9), pairs(5, 2), false},
		{"numbers at the ends", book(9), pairs(math.MinInt, math.MaxInt), false},
		{"a good pair, and numbers at the ends", book(9), pairs(0, 2, math.MaxInt, math.MinInt), false},
		{"many pairs", book(9), slices.Repeat(pairs(0, 2), 1000), false},
		{"One behind Other", turned, pairs(1, 0, 3, 2), true},
		{"Other not increasing", turned, pairs(1, 2, 3, 0), true},
		{"Other increasing, One not", turned, pairs(3, 0, 1, 2), false},
		{"no lines, no pairs", api.NameBook{}, nil, true},
		{"no lines, a pair", api.NameBook{}, pairs(0, 0), false},
	} {
		got, e := name.IsTruth(x.b, x.list)
		want(t, "IsTruth, "+x.what, got, e, x.must, api.OK)
	}
}

// bookCase is books, and what is so of all their truths.
type bookCase struct {
	what   string
	b      api.NameBook
	truths int
	people api.Span
	joined []api.NamePair
	wrong  []int
	ask    int // -1: there is just one truth
}

func bookCases() []bookCase {
	far := func(lost int) api.NameBook {
		b := book(lost)
		b.Lines[3].Minute = 700
		return b
	}
	short := book(0)
	short.Lines = short.Lines[:4]
	return []bookCase{
		{"the books of the chapter", book(1), 2, at(3), pairs(1, 3), nil, 0},
		{"with Lost 5", book(5), 6, to(3, 5), nil, nil, 0},
		{"with Lost 4", book(4), 5, to(3, 4), nil, nil, 0},
		{"with Lost 3", book(3), 5, to(3, 4), nil, nil, 0},
		{"with Lost 2", book(2), 2, at(3), pairs(1, 3), nil, 0},
		{"with Lost 0", book(0), 0, at(0), nil, []int{2}, 0},
		{"without the last line", short, 1, at(2), pairs(0, 2, 1, 3), nil, -1},
		{"a line too late, with Lost 0", far(0), 0, at(0), nil, []int{1, 2, 3}, 0},
		{"a line too late, with Lost 1", far(1), 0, at(0), nil, []int{1, 2}, 0},
		{"a line too late, with Lost 2", far(2), 0, at(0), nil, []int{1}, 0},
		{"a line too late, with Lost 3", far(3), 2, at(4), nil, nil, 0},
		{"no lines", api.NameBook{}, 1, at(0), nil, nil, -1},
		{"no lines, Lost 9", api.NameBook{Lost: 9}, 1, at(0), nil, nil, -1},
		{"one line", alike(0, 1), 0, at(0), nil, []int{0}, 0},
		{"one line that can be lost", alike(1, 1), 1, at(1), nil, nil, -1},
		{"a pair", alike(0, 0, 1), 1, at(1), pairs(0, 1), nil, -1},
		{"a pair, the book 1 first", alike(0, 1, 0), 1, at(1), pairs(1, 0), nil, -1},
		{"a pair, or none", alike(2, 0, 1), 2, to(1, 2), nil, nil, 0},
		{"a pair and one of them lost cannot be", alike(1, 0, 1), 1, at(1), pairs(0, 1), nil, -1},
		{"three of one name", alike(1, 1, 0, 0), 2, at(2), nil, nil, 0},
		{"two and two", alike(0, 0, 1, 0, 1), 2, at(2), nil, nil, 0},
		{"two and two, Lost 2", alike(2, 0, 1, 0, 1), 6, to(2, 3), nil, nil, 0},
		{"nine of one book", alike(8, 0, 0, 0, 0, 0, 0, 0, 0, 0), 0, at(0), nil, []int{0}, 0},
		{"nine of one book, none of them lost", alike(0, 1, 1, 1, 1, 1, 1, 1, 1, 1), 0, at(0), nil, []int{0, 1, 2, 3, 4, 5, 6, 7, 8}, 0},
		{"nine of one book, all lost", alike(9, 0, 0, 0, 0, 0, 0, 0, 0, 0), 1, at(9), nil, nil, -1},
		{"as many as can be", alike(9, 0, 0, 0, 0, 1, 1, 1, 1, 1), 501, to(5, 9), nil, nil, 0},
		{"as many as can be, one lost", alike(1, 0, 0, 0, 0, 1, 1, 1, 1, 1), 120, at(5), nil, nil, 0},
		{"as many as can be, one too many", alike(0, 0, 0, 0, 0, 1, 1, 1, 1, 1), 0, at(0), nil, []int{4}, 0},
		{"four and four behind one", alike(0, 1, 0, 0, 0, 0, 1, 1, 1, 1), 0, at(0), nil, []int{0}, 0},
	}
}

// P2.3, P2.5, P2.6, P2.7, P2.8, R3, R6: all truths of books, and what is so of them.
func TestTruths(t *testing.T) {
	for _, x := range bookCases() {
		code, asked, ask := api.OK, api.OK, x.ask
		switch {
		case x.truths == 0:
			code, asked = api.ErrNameNot, api.ErrNameNot
		case x.ask < 0:
			asked, ask = api.ErrNone, 0
		}
		n, e := name.Truths(x.b)
		want(t, "Truths, "+x.what, n, e, x.truths, api.OK)
		people, e := name.People(x.b)
		want(t, "People, "+x.what, people, e, x.people, code)
		joined, e := name.Joined(x.b)
		wantList(t, "Joined, "+x.what, joined, e, x.joined, code)
		wrong, e := name.Wrong(x.b)
		wantList(t, "Wrong, "+x.what, wrong, e, x.wrong, api.OK)
		n, e = name.Ask(x.b)
		want(t, "Ask, "+x.what, n, e, ask, asked)
	}
}

// P2.4, P1, R1: whether two lines are a pair.
func TestKind(t *testing.T) {
	for _, x := range []struct {
		lost, one, other int
		must             int
		code             api.Errno
	}{
		{1, 0, 2, 1, api.OK}, {1, 0, 4, 1, api.OK}, {1, 1, 3, 2, api.OK}, {1, 1, 2, 0, api.OK}, {1, 0, 3, 0, api.OK}, {1, 1, 4, 0, api.OK},
		{5, 1, 3, 1, api.OK}, {5, 0, 2, 1, api.OK}, {5, 0, 3, 0, api.OK}, {3, 1, 3, 1, api.OK}, {2, 1, 3, 2, api.OK},
		{0, 1, 3, 0, api.ErrNameNot}, {0, 1, 2, 0, api.ErrNameNot},
		{1, 3, 1, 0, api.ErrNameAsk}, {0, 3, 1, 0, api.ErrNameAsk}, {1, 0, 1, 0, api.ErrNameAsk}, {1, 2, 3, 0, api.ErrNameAsk},
		{1, 0, 0, 0, api.ErrNameAsk}, {1, 0, 5, 0, api.ErrNameAsk}, {1, 5, 2, 0, api.ErrNameAsk}, {1, -1, 2, 0, api.ErrNameAsk},
		{1, 0, -1, 0, api.ErrNameAsk}, {0, 0, 5, 0, api.ErrNameAsk}, {0, math.MinInt, 2, 0, api.ErrNameAsk}, {0, 0, math.MaxInt, 0, api.ErrNameAsk},
	} {
		got, e := name.Kind(book(x.lost), x.one, x.other)
		want(t, "Kind, Lost "+string(rune('0'+x.lost))+", "+string(rune('A'+x.one))+string(rune('A'+x.other)), got, e, x.must, x.code)
	}
	got, e := name.Kind(alike(0, 1, 0), 1, 0)
	want(t, "Kind, the book 1 first", got, e, 2, api.OK)
	got, e = name.Kind(alike(0, 1, 0), 0, 1)
	want(t, "Kind, the book 1 first, asked the wrong way round", got, e, 0, api.ErrNameAsk)
	got, e = name.Kind(api.NameBook{}, 0, 0)
	want(t, "Kind without lines", got, e, 0, api.ErrNameAsk)
}

// P2.8: the first line is not always the best one, and the worst answer decides.
func TestAsk(t *testing.T) {
	for _, x := range []struct {
		what string
		b    api.NameBook
		must int
	}{
		{"the first line is sure", api.NameBook{Lines: []api.NameLine{line(0, 9, "b"), line(1, 9, "b"), line(1, 9, "a"), line(0, 9, "a"), line(0, 9, "a")}, Lost: 1}, 2},
		{"one that can have many matches", api.NameBook{Lines: []api.NameLine{line(1, 9, "a"), line(1, 9, "a"), line(1, 9, "a"), line(0, 9, "a")}, Lost: 2}, 3},
		{"equally good ones", alike(2, 1, 0, 1, 0), 0},
		{"the other one of two names", api.NameBook{Lines: []api.NameLine{line(0, 9, "b"), line(1, 9, "b"), line(0, 9, "a"), line(1, 9, "a"), line(1, 9, "a")}, Lost: 9}, 2},
	} {
		got, e := name.Ask(x.b)
		want(t, "Ask, "+x.what, got, e, x.must, api.OK)
	}
}

// R3: between nil and empty there is no difference.
func TestNilAndEmpty(t *testing.T) {
	none := api.NameBook{Lost: 1}
	empty := api.NameBook{Lost: 1, Ear: api.NameEar{Alike: []string{}}, Lines: []api.NameLine{}}
	if one, other := ask(none), ask(empty); one != other {
		t.Errorf("%s with nil, %s with empty lists", one, other)
	}
	for _, b := range []api.NameBook{none, empty} {
		for _, list := range [][]api.NamePair{nil, {}} {
			got, e := name.IsTruth(b, list)
			want(t, "IsTruth", got, e, true, api.OK)
		}
	}
}
