package dead_test

import (
	"fmt"
	"math"
	"slices"
	"strings"
	"testing"

	"clavendier/api"
	"clavendier/dead"
)

func list(numbers ...int) []int { return numbers }

func texts(list ...string) []string { return list }

func find(buttons, coins int, letter string, low, high int) api.DeadFind {
	return api.DeadFind{Buttons: buttons, Coins: coins, Letter: letter, Day: api.Span{Low: low, High: high}}
}

func person(name string, buttons, coins, day int) api.DeadPerson {
	return api.DeadPerson{Name: name, Buttons: buttons, Coins: coins, Day: day}
}

// change is how a book is changed.
type change func(b *api.DeadBook)

// changed is a book, changed.
func changed(b api.DeadBook, changes ...change) api.DeadBook {
	b = cloned(b)
	for _, c := range changes {
		c(&b)
	}
	return b
}

// book is the book of the chapter, changed.
func book(changes ...change) api.DeadBook {
	return changed(api.DeadBook{
		Ear: api.NameEar{Alike: []string{"bp", "dt"}, Mute: "h", Slips: 1},
		Finds: []api.DeadFind{
			find(2, 3, "peter", 10, 20), find(-1, 2, "", 5, 30), find(3, 0, "ans", 12, 12),
		},
		People: []api.DeadPerson{
			person("beter", 12, 3, 8), person("peder", 4, 7, 15), person("hans", 8, 2, 12), person("toni", 10, 2, 13),
		},
	}, changes...)
}

func strangers(n int) change { return func(b *api.DeadBook) { b.Strangers = n } }

func letter(find int, text string) change {
	return func(b *api.DeadBook) { b.Finds[find].Letter = text }
}

func day(find, low, high int) change {
	return func(b *api.DeadBook) { b.Finds[find].Day = api.Span{Low: low, High: high} }
}

// nobody leaves all people away.
func nobody(b *api.DeadBook) { b.People = nil }

// could is a book of so many people, in which each find can be those of a text of numbers: each find has a coin of its own.
func could(people int, finds ...string) api.DeadBook {
	var b api.DeadBook
	for number := range people {
		p := person("a", 0, 0, 0)
		for k, numbers := range finds {
			if strings.Contains(numbers, fmt.Sprint(number)) {
				p.Coins |= 1 << k
			}
		}
		b.People = append(b.People, p)
	}
	for k := range finds {
		b.Finds = append(b.Finds, find(-1, 1<<k, "", 0, 0))
	}
	return b
}

// want reports what a call returned, if it is not what was to be.
func want[T comparable](t *testing.T, call string, got T, e api.Errno, must T, code api.Errno) {
	t.Helper()
	if got != must || e != code {
		t.Errorf("%s: %v, error %d; not %v, error %d", call, got, e, must, code)
	}
}

// wantList does the same with lists.
func wantList(t *testing.T, call string, got []int, e api.Errno, must []int, code api.Errno) {
	t.Helper()
	if !slices.Equal(got, must) || e != code {
		t.Errorf("%s: %v, error %d; not %v, error %d", call, got, e, must, code)
	}
}

// wantError tests that all functions but Check return this error and nothing else, asked for these numbers.
func wantError(t *testing.T, what string, b api.DeadBook, find, person int, code api.Errno) {
	t.Helper()
	is, e := dead.Can(b, find, person)
	want(t, "Can, "+what, is, e, false, code)
	is, e = dead.IsTruth(b, list(find, person))
	want(t, "IsTruth, "+what, is, e, false, code)
	n, e := dead.Truths(b)
	want(t, "Truths, "+what, n, e, 0, code)
	wrong, e := dead.Wrong(b)
	wantList(t, "Wrong, "+what, wrong, e, nil, code)
	wantNot(t, what, b, find, code)
}

// wantNot does the same of all functions that return an error if there is no truth.
func wantNot(t *testing.T, what string, b api.DeadBook, find int, code api.Errno) {
	t.Helper()
	who, e := dead.Who(b, find)
	wantList(t, "Who, "+what, who, e, nil, code)
	known, e := dead.Known(b)
	wantList(t, "Known, "+what, known, e, nil, code)
	living, e := dead.Living(b)
	wantList(t, "Living, "+what, living, e, nil, code)
	n, e := dead.Ask(b)
	want(t, "Ask, "+what, n, e, 0, code)
}

// wrongSigns are changes after which a find is not valid.
func wrongSigns() map[string]change {
	all := map[string]change{}
	for _, k := range []int{0, 2} {
		add := func(what string, do func(f *api.DeadFind)) {
			all[fmt.Sprint("the find ", k, ": ", what)] = func(b *api.DeadBook) { do(&b.Finds[k]) }
		}
		for _, n := range []int{-2, 8, 9, math.MinInt, math.MaxInt} {
			add(fmt.Sprint("buttons ", n), func(f *api.DeadFind) { f.Buttons = n })
		}
		for _, n := range []int{-1, 256, 511, math.MinInt, math.MaxInt} {
			add(fmt.Sprint("coins ", n), func(f *api.DeadFind) { f.Coins = n })
		}
		for _, text := range []string{"Peter", "1", "pe ter", "peter!", "petr\xe9", "thirteenbytes", "1peter", strings.Repeat("a", 50000), "\x00", " "} {
			add(fmt.Sprintf("a letter %.15q", text), func(f *api.DeadFind) { f.Letter = text })
		}
		for _, s := range []api.Span{{Low: -1, High: 5}, {Low: 5, High: 4}, {Low: 0, High: 1000}, {Low: 1000, High: 1000}, {Low: -1, High: -1}, {Low: math.MinInt, High: math.MaxInt}, {Low: math.MaxInt, High: math.MinInt}, {Low: 999, High: 0}} {
			add(fmt.Sprint("days ", s), func(f *api.DeadFind) { f.Day = s })
		}
	}
	return all
}

// wrongPeople are changes after which a person is not valid.
func wrongPeople() map[string]change {
	all := map[string]change{}
	for _, k := range []int{0, 3} {
		add := func(what string, do func(p *api.DeadPerson)) {
			all[fmt.Sprint("the person ", k, ": ", what)] = func(b *api.DeadBook) { do(&b.People[k]) }
		}
		for _, n := range []int{-1, 256, 511, math.MinInt, math.MaxInt} {
			add(fmt.Sprint("buttons ", n), func(p *api.DeadPerson) { p.Buttons = n })
			add(fmt.Sprint("coins ", n), func(p *api.DeadPerson) { p.Coins = n })
		}
		for _, n := range []int{-1, 1000, math.MinInt, math.MaxInt} {
			add(fmt.Sprint("day ", n), func(p *api.DeadPerson) { p.Day = n })
		}
		for _, text := range []string{"", "Peter", "1", "thirteenbytes", "peter!", "pe ter", strings.Repeat("a", 50000)} {
			add(fmt.Sprintf("a name %.15q", text), func(p *api.DeadPerson) { p.Name = text })
		}
	}
	return all
}

// wrongEars are changes after which the ear is not valid.
func wrongEars() map[string]change {
	all := map[string]change{}
	for what, ear := range map[string]api.NameEar{
		"slips below 0": {Slips: -1}, "four slips": {Slips: 4}, "four mute letters": {Mute: "abcd"}, "a mute sign": {Mute: "!"},
		"a lone letter": {Alike: texts("a")}, "a letter in two groups": {Alike: texts("ab", "bc")}, "a group of five": {Alike: texts("abcde")},
		"five groups": {Alike: texts("ab", "cd", "ef", "gh", "ij")}, "a letter twice": {Mute: "hh"},
	} {
		all["an ear: "+what] = func(b *api.DeadBook) { b.Ear = ear }
	}
	return all
}

// wrongBooks are books that are not valid.
func wrongBooks() map[string]api.DeadBook {
	all := map[string]api.DeadBook{}
	for _, changes := range []map[string]change{wrongSigns(), wrongPeople(), wrongEars()} {
		for what, c := range changes {
			all[what] = book(c)
		}
	}
	for _, n := range []int{-1, 6, math.MinInt, math.MaxInt} {
		all[fmt.Sprint(n, " strangers")] = book(strangers(n))
		all[fmt.Sprint(n, " strangers, and nothing else")] = api.DeadBook{Strangers: n}
	}
	for _, n := range []int{6, 100000} {
		all[fmt.Sprint(n, " finds")] = book(func(b *api.DeadBook) { b.Finds = slices.Repeat(b.Finds[1:2], n) })
	}
	for _, n := range []int{7, 100000} {
		all[fmt.Sprint(n, " people")] = book(func(b *api.DeadBook) { b.People = slices.Repeat(b.People[:1], n) })
	}
	all["a find that is wrong, and nothing else"] = api.DeadBook{Finds: []api.DeadFind{find(0, 0, "", 5, 4)}}
	all["a person who is wrong, and nothing else"] = api.DeadBook{People: make([]api.DeadPerson, 1)}
	all["all of it wrong"] = api.DeadBook{Ear: api.NameEar{Slips: 9}, Finds: make([]api.DeadFind, 9), People: make([]api.DeadPerson, 9), Strangers: 9}
	return all
}

// P10.1, P10.2, R7: books that are valid, up to their ends, whether they have a truth or not.
func TestBooks(t *testing.T) {
	great := func(b *api.DeadBook) {
		b.Finds[0] = find(7, 255, "abcdefghijk9", 0, 999)
		b.Finds[1] = find(0, 0, "z", 999, 999)
		b.Finds[2] = find(-1, 0, "", 0, 0)
		b.People[0] = person("abcdefghijk9", 255, 255, 999)
		b.People[1] = person("z", 1, 0, 0)
		b.People[2] = person("a", 0, 0, 0)
		b.People[3] = person("a", 0, 0, 1)
	}
	for i, x := range []struct {
		b      api.DeadBook
		truths int
	}{
		{api.DeadBook{}, 1}, {api.DeadBook{Strangers: 5}, 1}, {could(6), 1}, {could(0, ""), 0}, {changed(could(0, "", "", "", "", ""), strangers(5)), 1},
		{changed(could(0, "", "", "", "", ""), strangers(4)), 0},
		{book(), 4}, {book(strangers(1)), 15}, {book(nobody), 0}, {book(letter(2, "maria")), 0}, {book(great), 1},
		// All lists of five finds, each one of six people or a stranger, in which nobody stands twice.
		{changed(could(6, "012345", "012345", "012345", "012345", "012345"), strangers(5)), 1 + 5*6 + 10*30 + 10*120 + 5*360 + 720},
		{changed(could(6, "012345", "012345", "012345", "012345", "012345"), strangers(4)), 5*6 + 10*30 + 10*120 + 5*360 + 720},
		{changed(could(6, "012345", "012345", "012345", "012345", "012345"), strangers(1)), 5*360 + 720},
		{could(6, "012345", "012345", "012345", "012345", "012345"), 720}, {could(5, "01234", "01234", "01234", "01234", "01234"), 120}, {could(4, "0123", "0123", "0123", "0123", "0123"), 0},
	} {
		if e := dead.Check(x.b); e != api.OK {
			t.Errorf("Check of the book %d: error %d", i, e)
		}
		got, e := dead.Truths(x.b)
		want(t, fmt.Sprint("Truths of the book ", i), got, e, x.truths, api.OK)
	}
}

// P10.1, P1, R1, R2, R8: a wrong book is the first error of all functions, with nothing else.
func TestWrongBooks(t *testing.T) {
	for what, b := range wrongBooks() {
		if e := dead.Check(b); e != api.ErrDead {
			t.Errorf("Check, %s: error %d", what, e)
		}
		for _, n := range []int{0, 1, -1, 3, math.MinInt, math.MaxInt} {
			wantError(t, what, b, n, 0, api.ErrDead)
			wantError(t, what, b, 0, n, api.ErrDead)
		}
	}
}

// P10.1, P10.3, P1, R1, R2: wrong questions come before that there is no truth.
func TestWrongQuestions(t *testing.T) {
	for what, b := range map[string]api.DeadBook{"of the chapter": book(), "without a truth": book(letter(2, "maria")), "nothing": {}, "nobody": book(nobody), "no finds": could(4)} {
		for _, n := range []int{-1, -2, 4, 5, 6, math.MinInt, math.MaxInt} {
			call := fmt.Sprint(" of ", n, ", ", what)
			is, e := dead.Can(b, n, 0)
			want(t, "Can"+call, is, e, false, api.ErrDeadAsk)
			is, e = dead.Can(b, 0, n)
			want(t, "Can of 0"+call, is, e, false, api.ErrDeadAsk)
			is, e = dead.Can(b, n, n)
			want(t, "Can twice"+call, is, e, false, api.ErrDeadAsk)
			who, e := dead.Who(b, n)
			wantList(t, "Who"+call, who, e, nil, api.ErrDeadAsk)
		}
	}
	// as many finds and people as there can be
	b := could(6, "0", "1", "2", "3", "5")
	is, e := dead.Can(b, 4, 5)
	want(t, "Can of 4 and 5", is, e, true, api.OK)
	is, e = dead.Can(b, 5, 5)
	want(t, "Can of 5 and 5", is, e, false, api.ErrDeadAsk)
	is, e = dead.Can(b, 4, 6)
	want(t, "Can of 4 and 6", is, e, false, api.ErrDeadAsk)
	who, e := dead.Who(b, 4)
	wantList(t, "Who of 4", who, e, list(5), api.OK)
	who, e = dead.Who(b, 5)
	wantList(t, "Who of 5", who, e, nil, api.ErrDeadAsk)
	// as many finds as there are not people, and the other way round
	is, e = dead.Can(book(), 3, 0)
	want(t, "Can of 3 and 0", is, e, false, api.ErrDeadAsk)
	is, e = dead.Can(could(1, "0", "0"), 0, 1)
	want(t, "Can of 0 and 1 of one", is, e, false, api.ErrDeadAsk)
}

// P10.3 to P10.5, P10.7, R2: without a truth there is one error; whom a find can be is told all the same.
func TestNoTruth(t *testing.T) {
	for what, b := range map[string]api.DeadBook{
		"a letter of nobody": book(letter(2, "maria")), "nobody": book(nobody), "too few strangers": book(nobody, strangers(2)),
		"two that can be one": could(1, "0", "0"), "three that can be two": could(4, "13", "13", "13"), "one that can be none": could(2, "01", ""),
		"one that can be none, and another one": changed(could(2, "01", "", ""), strangers(1)),
	} {
		wantNot(t, what, b, 0, api.ErrDeadNot)
		wantNot(t, what, b, len(b.Finds)-1, api.ErrDeadNot)
		n, e := dead.Truths(b)
		want(t, "Truths, "+what, n, e, 0, api.OK)
		is, e := dead.IsTruth(b, slices.Repeat(list(-1), len(b.Finds)))
		want(t, "IsTruth, "+what, is, e, false, api.OK)
	}
	is, e := dead.Can(book(letter(2, "maria")), 1, 3)
	want(t, "Can of 1 and 3, without a truth", is, e, true, api.OK)
}

// P10.1: the table of the chapter, and all other pairs of its book.
func TestCan(t *testing.T) {
	for find, who := range []string{"01", "0123", "2"} {
		for person := range 4 {
			is, e := dead.Can(book(), find, person)
			want(t, fmt.Sprint("Can of ", find, " and ", person), is, e, strings.Contains(who, fmt.Sprint(person)), api.OK)
		}
	}
}

// P10.1: each sign is asked for, at its ends, and by the ear of the book.
func TestSigns(t *testing.T) {
	hans := person("hans", 0, 0, 12)
	ear := api.NameEar{Alike: []string{"bp", "dt", "sz"}, Mute: "h", Slips: 1}
	for i, x := range []struct {
		f   api.DeadFind
		p   api.DeadPerson
		ear api.NameEar
		can bool
	}{
		{find(-1, 0, "", 12, 12), hans, ear, true},
		{find(0, 0, "", 12, 12), hans, ear, false}, {find(7, 0, "", 12, 12), hans, ear, false},
		{find(0, 0, "", 12, 12), person("hans", 1, 0, 12), ear, true}, {find(0, 0, "", 12, 12), person("hans", 254, 0, 12), ear, false},
		{find(7, 0, "", 12, 12), person("hans", 128, 0, 12), ear, true}, {find(7, 0, "", 12, 12), person("hans", 127, 0, 12), ear, false},
		{find(3, 0, "", 12, 12), person("hans", 3, 0, 12), ear, false}, {find(3, 0, "", 12, 12), person("hans", 8, 0, 12), ear, true}, {find(3, 0, "", 12, 12), person("hans", 255, 0, 12), ear, true},
		{find(-1, 0, "", 12, 12), person("hans", 255, 255, 12), ear, true},
		{find(-1, 1, "", 12, 12), hans, ear, false}, {find(-1, 128, "", 12, 12), person("hans", 0, 127, 12), ear, false}, {find(-1, 128, "", 12, 12), person("hans", 0, 128, 12), ear, true},
		{find(-1, 5, "", 12, 12), person("hans", 0, 4, 12), ear, false}, {find(-1, 5, "", 12, 12), person("hans", 0, 1, 12), ear, false}, {find(-1, 5, "", 12, 12), person("hans", 0, 5, 12), ear, true}, {find(-1, 4, "", 12, 12), person("hans", 0, 5, 12), ear, true}, {find(-1, 5, "", 12, 12), person("hans", 0, 7, 12), ear, true},
		{find(-1, 255, "", 12, 12), person("hans", 0, 254, 12), ear, false}, {find(-1, 255, "", 12, 12), person("hans", 0, 255, 12), ear, true}, {find(-1, 1, "", 12, 12), person("hans", 1, 2, 12), ear, false}, {find(1, 0, "", 12, 12), person("hans", 1, 2, 12), ear, false},
		{find(-1, 0, "hans", 12, 12), hans, api.NameEar{}, true}, {find(-1, 0, "ans", 12, 12), hans, api.NameEar{}, false}, {find(-1, 0, "ans", 12, 12), hans, ear, true}, {find(-1, 0, "anz", 12, 12), hans, ear, true},
		{find(-1, 0, "anz", 12, 12), hans, api.NameEar{Alike: ear.Alike, Mute: "h"}, false}, {find(-1, 0, "anz", 12, 12), hans, api.NameEar{Mute: "h", Slips: 3}, false}, {find(-1, 0, "han", 12, 12), hans, ear, false}, {find(-1, 0, "hansi", 12, 12), hans, ear, false}, {find(-1, 0, "hant", 12, 12), hans, ear, false},
		{find(-1, 0, "bedra", 12, 12), person("petra", 0, 0, 12), ear, false}, {find(-1, 0, "betra", 12, 12), person("petra", 0, 0, 12), ear, true}, {find(-1, 0, "bedra", 12, 12), person("petra", 0, 0, 12), api.NameEar{Alike: ear.Alike, Slips: 2}, true},
		{find(-1, 0, "h", 12, 12), person("hh", 0, 0, 12), ear, true}, {find(-1, 0, "h", 12, 12), person("hh", 0, 0, 12), api.NameEar{}, false},
		{find(-1, 0, "", 0, 11), hans, ear, false}, {find(-1, 0, "", 0, 12), hans, ear, true}, {find(-1, 0, "", 11, 11), hans, ear, false}, {find(-1, 0, "", 13, 13), hans, ear, true}, {find(-1, 0, "", 0, 999), hans, ear, true}, {find(-1, 0, "", 999, 999), hans, ear, true},
		{find(-1, 0, "", 0, 0), person("a", 0, 0, 0), ear, true}, {find(-1, 0, "", 0, 0), person("a", 0, 0, 1), ear, false}, {find(-1, 0, "", 999, 999), person("a", 0, 0, 999), ear, true}, {find(-1, 0, "", 0, 998), person("a", 0, 0, 999), ear, false},
		{find(7, 255, "hans", 12, 12), person("hans", 255, 255, 12), ear, true}, {find(7, 255, "hans", 12, 11+1), person("hans", 255, 255, 13), ear, false},
	} {
		b := api.DeadBook{Ear: x.ear, Finds: []api.DeadFind{x.f}, People: []api.DeadPerson{x.p}}
		is, e := dead.Can(b, 0, 0)
		want(t, fmt.Sprint("Can ", i, ": ", x.f, " and ", x.p), is, e, x.can, api.OK)
		is, e = dead.IsTruth(b, list(0))
		want(t, fmt.Sprint("IsTruth ", i, ": ", x.f, " and ", x.p), is, e, x.can, api.OK)
	}
}

// P10.2: each list is a truth, or not.
func TestIsTruth(t *testing.T) {
	for i, x := range []struct {
		b   api.DeadBook
		who []int
		is  bool
	}{
		{book(), list(0, 1, 2), true}, {book(), list(1, 3, 2), true}, {book(), list(0, 3, 2), true}, {book(), list(1, 0, 2), true}, {book(), list(1, 2, 2), false}, {book(), list(0, 0, 2), false}, {book(), list(0, 1, 0), false}, {book(), list(2, 1, 0), false},
		{book(), list(0, -1, 2), false}, {book(), list(-1, 0, 2), false}, {book(), list(0, 1, -1), false}, {book(strangers(1)), list(0, -1, 2), true}, {book(strangers(1)), list(-1, 0, 2), true}, {book(strangers(1)), list(0, 1, -1), true},
		{book(strangers(1)), list(0, 2, -1), true}, {book(strangers(1)), list(-1, -1, 2), false}, {book(strangers(1)), list(-1, 1, -1), false}, {book(strangers(2)), list(-1, -1, 2), true}, {book(strangers(2)), list(-1, -1, -1), false}, {book(strangers(3)), list(-1, -1, -1), true}, {book(strangers(5)), list(0, 1, 2), true},
		{book(strangers(5)), list(-2, 1, 2), false}, {book(strangers(5)), list(0, 1, -2), false}, {book(strangers(5)), list(0, 4, 2), false}, {book(strangers(5)), list(0, 6, 2), false}, {book(strangers(5)), list(0, math.MaxInt, 2), false}, {book(strangers(5)), list(0, math.MinInt, 2), false}, {book(strangers(5)), list(math.MinInt, math.MaxInt, math.MinInt), false},
		{book(), nil, false}, {book(), list(), false}, {book(), list(0, 1), false}, {book(), list(0, 1, 2, 3), false}, {book(strangers(5)), list(0, 1, 2, -1), false}, {book(strangers(5)), list(0, 1, 2, -1, -1, -1), false}, {book(strangers(5)), list(-1), false},
		{book(), make([]int, 100000), false}, {book(strangers(5)), slices.Repeat(list(-1), 100000), false},
		{api.DeadBook{}, nil, true}, {api.DeadBook{}, list(), true}, {api.DeadBook{}, list(0), false}, {api.DeadBook{Strangers: 5}, list(-1), false}, {could(6), nil, true}, {could(6), list(0), false},
		{could(2, "01", "01"), list(0, 1), true}, {could(2, "01", "01"), list(1, 0), true}, {could(2, "01", "01"), list(1, 1), false}, {could(2, "01", "0"), list(0, 1), false},
		{could(6, "0", "1", "2", "3", "4"), list(0, 1, 2, 3, 4), true}, {could(6, "5", "4", "3", "2", "1"), list(5, 4, 3, 2, 1), true}, {could(6, "5", "4", "3", "2", "5"), list(5, 4, 3, 2, 5), false},
	} {
		is, e := dead.IsTruth(x.b, x.who)
		want(t, fmt.Sprintf("IsTruth %d of %.30s", i, fmt.Sprint(x.who)), is, e, x.is, api.OK)
	}
}

// bookCase is a book that has a truth, and what is told of it.
type bookCase struct {
	what   string
	b      api.DeadBook
	truths int
	who    [][]int
	known  []int
	living []int
	ask    int // -1: nothing is left to be asked
}

func bookCases() []bookCase {
	stranger := list(-1)
	return []bookCase{
		{"of the chapter", book(), 4, [][]int{{0, 1}, {0, 1, 3}, {2}}, list(-1, -1, 2), list(0, 1, 3), 0},
		{"of the chapter, with a stranger", book(strangers(1)), 15, [][]int{{-1, 0, 1}, {-1, 0, 1, 2, 3}, {-1, 2}}, list(-1, -1, -1), list(0, 1, 2, 3), 1},
		{"nothing", api.DeadBook{}, 1, nil, nil, nil, -1},
		{"nobody was found", could(3), 1, nil, nil, list(0, 1, 2), -1},
		{"all are strangers", changed(could(0, "", ""), strangers(2)), 1, [][]int{stranger, stranger}, list(-1, -1), nil, -1},
		{"one who must be a stranger, and one who can be none", changed(could(2, "", "1"), strangers(1)), 1, [][]int{stranger, {1}}, list(-1, 1), list(0), -1},
		{"one who can be a stranger", changed(could(1, "0"), strangers(1)), 2, [][]int{{-1, 0}}, list(-1), list(0), 0},
		{"more strangers than finds", changed(could(1, "0"), strangers(5)), 2, [][]int{{-1, 0}}, list(-1), list(0), 0},
		{"one who is known", could(2, "1"), 1, [][]int{{1}}, list(1), list(0), -1},
		{"one who is known by another one", could(2, "01", "0"), 1, [][]int{{1}, {0}}, list(1, 0), nil, -1},
		{"one after the other is known", could(4, "012", "01", "0", "0123"), 1, [][]int{{2}, {1}, {0}, {3}}, list(2, 1, 0, 3), nil, -1},
		{"two who are two of the people", could(3, "01", "01", "012"), 2, [][]int{{0, 1}, {0, 1}, {2}}, list(-1, -1, 2), nil, 0},
		{"two who are two of the people, later", could(4, "2", "01", "01"), 2, [][]int{{2}, {0, 1}, {0, 1}}, list(2, -1, -1), list(3), 1},
		{"people who are alike", could(3, "012"), 3, [][]int{{0, 1, 2}}, list(-1), list(0, 1, 2), 0},
		{"the last ones", could(6, "45", "4"), 1, [][]int{{5}, {4}}, list(5, 4), list(0, 1, 2, 3), -1},
		{"no strangers, though one can be nobody else's", could(6, "012345", "3"), 5, [][]int{{0, 1, 2, 4, 5}, {3}}, list(-1, 3), list(0, 1, 2, 4, 5), 0},
		// The find 1 has three answers that leave one truth, and the find 0 leaves two of three.
		{"the one who leaves the fewest", could(4, "01", "123"), 5, [][]int{{0, 1}, {1, 2, 3}}, list(-1, -1), list(0, 1, 2, 3), 1},
		{"the first one of two", could(4, "01", "23"), 4, [][]int{{0, 1}, {2, 3}}, list(-1, -1), list(0, 1, 2, 3), 0},
		{"the last one", could(6, "0", "12", "345"), 6, [][]int{{0}, {1, 2}, {3, 4, 5}}, list(0, -1, -1), list(1, 2, 3, 4, 5), 2},
		// The find 2 has two answers that leave three truths each; of the three of the find 0 one leaves four.
		{"most answers, but not the best ones", could(5, "124", "024", "24", "3"), 6, [][]int{{1, 2, 4}, {0, 2, 4}, {2, 4}, {3}}, list(-1, -1, -1, 3), list(0, 1, 2, 4), 2},
		{"as many as there can be", could(6, "012345", "012345", "012345", "012345", "012345"), 720, slices.Repeat([][]int{{0, 1, 2, 3, 4, 5}}, 5), list(-1, -1, -1, -1, -1), list(0, 1, 2, 3, 4, 5), 0},
	}
}

// P10.2 to P10.5, P10.7, R6: all that is told of a book with a truth.
func TestWhatIsTold(t *testing.T) {
	for _, x := range bookCases() {
		n, e := dead.Truths(x.b)
		want(t, "Truths, "+x.what, n, e, x.truths, api.OK)
		for k := range x.b.Finds {
			who, e := dead.Who(x.b, k)
			wantList(t, fmt.Sprint("Who of ", k, ", ", x.what), who, e, x.who[k], api.OK)
		}
		known, e := dead.Known(x.b)
		wantList(t, "Known, "+x.what, known, e, x.known, api.OK)
		living, e := dead.Living(x.b)
		wantList(t, "Living, "+x.what, living, e, x.living, api.OK)
		wrong, e := dead.Wrong(x.b)
		wantList(t, "Wrong, "+x.what, wrong, e, nil, api.OK)
		n, e = dead.Ask(x.b)
		if x.ask < 0 {
			want(t, "Ask, "+x.what, n, e, 0, api.ErrNone)
		} else {
			want(t, "Ask, "+x.what, n, e, x.ask, api.OK)
		}
	}
}

// read is a book of finds with these letters, and people with these names, which are heard as they are written.
func read(names string, letters ...string) api.DeadBook {
	var b api.DeadBook
	for _, name := range strings.Fields(names) {
		b.People = append(b.People, person(name, 0, 0, 0))
	}
	for _, letter := range letters {
		b.Finds = append(b.Finds, find(-1, 0, letter, 0, 0))
	}
	return b
}

// P10.6, R6: the letters that are wrong, or the error if no letter is to blame.
func TestWrong(t *testing.T) {
	for i, x := range []struct {
		b     api.DeadBook
		wrong []int
		code  api.Errno
	}{
		{book(), nil, api.OK}, {book(letter(2, "maria")), list(2), api.OK}, {book(letter(2, "maria"), letter(0, "ana")), list(0, 2), api.OK}, {book(letter(1, "maria")), list(1), api.OK},
		{book(letter(0, "ana"), strangers(1)), nil, api.OK}, {book(letter(0, "ana"), letter(2, "maria"), strangers(1)), list(0), api.OK}, {book(letter(0, "ana"), letter(2, "maria"), strangers(2)), nil, api.OK},
		{book(letter(0, "hans"), letter(2, "hans")), list(0), api.OK},
		{book(nobody), nil, api.ErrNone}, {book(nobody, strangers(2)), nil, api.ErrNone}, {book(nobody, strangers(3)), nil, api.OK},
		{book(func(b *api.DeadBook) { b.Finds[1].Coins = 8 }), nil, api.ErrNone}, {book(func(b *api.DeadBook) { b.Finds[1].Coins = 8 }, letter(0, "ana")), nil, api.ErrNone}, {book(func(b *api.DeadBook) { b.Finds[1].Coins = 8 }, letter(0, "ana"), strangers(1)), list(0), api.OK},
		{book(day(0, 0, 7), letter(0, "maria")), nil, api.ErrNone}, {book(day(2, 0, 11)), list(2), api.OK}, {book(day(2, 0, 7)), nil, api.ErrNone},
		{api.DeadBook{}, nil, api.OK}, {could(3), nil, api.OK}, {could(1, "0", "0"), nil, api.ErrNone},
		{read("a b", "a", "a"), list(0), api.OK}, {read("a b", "b", "b"), list(0), api.OK}, {read("a b", "", "c"), list(1), api.OK}, {read("a b", "c", ""), list(0), api.OK}, {read("a b", "a", "c"), list(1), api.OK}, {read("a b", "c", "d"), list(0, 1), api.OK},
		{read("a", "a", "a"), nil, api.ErrNone}, {changed(read("a", "a", "a"), strangers(1)), nil, api.OK}, {changed(read("a", "b", "c"), strangers(1)), list(0), api.OK},
		{read("a b c", "a", "a", "a"), list(0, 1), api.OK}, {read("a b c", "c", "c", "a"), list(0), api.OK}, {read("a b c", "a", "c", "c"), list(1), api.OK}, {read("a b c", "", "c", "c"), list(1), api.OK}, {read("a b c", "c", "", "c"), list(0), api.OK},
		{read("a b c d", "d", "d", "a", "a"), list(0, 2), api.OK}, {read("a b c d", "a", "b", "x", "y"), list(2, 3), api.OK}, {read("a b c d", "a", "x", "b", "y"), list(1, 3), api.OK}, {changed(read("a b c d", "x", "y", "z", "x"), strangers(2)), list(0, 1), api.OK},
		{read("a b c d e", "v", "w", "x", "y", "z"), list(0, 1, 2, 3, 4), api.OK}, {read("a b c d e f", "a", "b", "c", "d", "z"), list(4), api.OK}, {read("a b c d e f", "f", "f", "f", "f", "f"), list(0, 1, 2, 3), api.OK},
		{changed(read("a b c d e", "v", "w", "x", "y", "z"), strangers(4)), list(0), api.OK}, {changed(read("a b c d e", "v", "w", "x", "y", "z"), strangers(5)), nil, api.OK},
		// The letter of the find 0 is right, but it alone is of whom the find 1 must be, which has no letter.
		{changed(read("a b", "a", ""), func(b *api.DeadBook) { b.Finds[1].Coins, b.People[0].Coins = 1, 1 }), list(0), api.OK},
		// Fewer letters are wrong if one is that stands behind others.
		{changed(read("a b c", "a", "b", "c"), func(b *api.DeadBook) { b.Finds[0].Coins, b.People[2].Coins = 1, 1 }), list(0, 2), api.OK},
		{changed(read("a b c d", "b", "c", "a"), func(b *api.DeadBook) { b.Finds[1].Coins, b.People[0].Coins = 1, 1 }), list(1, 2), api.OK},
		{changed(read("a b c", "a", "b", "a"), func(b *api.DeadBook) { b.Finds[0].Coins, b.People[0].Coins = 1, 1 }), list(2), api.OK},
	} {
		wrong, e := dead.Wrong(x.b)
		wantList(t, fmt.Sprint("Wrong ", i, ": ", x.b), wrong, e, x.wrong, x.code)
	}
}

// ask asks everything of a book.
func ask(b api.DeadBook) string {
	truths, e1 := dead.Truths(b)
	known, e2 := dead.Known(b)
	living, e3 := dead.Living(b)
	wrong, e4 := dead.Wrong(b)
	best, e5 := dead.Ask(b)
	answers := []string{fmt.Sprint(dead.Check(b), truths, e1, known, e2, living, e3, wrong, e4, best, e5)}
	for k := range api.DeadFinds + 1 {
		who, e1 := dead.Who(b, k)
		can, e2 := dead.Can(b, k, k+1)
		is, e3 := dead.IsTruth(b, list(0, 1, 2, 3, 4, 5)[:k])
		answers = append(answers, fmt.Sprint(who, e1, can, e2, is, e3))
	}
	return strings.Join(answers, "; ")
}

// R3: between nil and empty there is no difference.
func TestNilAndEmpty(t *testing.T) {
	empty := api.DeadBook{Ear: api.NameEar{Alike: []string{}}, Finds: []api.DeadFind{}, People: []api.DeadPerson{}}
	if one, other := ask(api.DeadBook{}), ask(empty); one != other {
		t.Errorf("%s with nil, %s with empty lists", one, other)
	}
	one, other := could(2), could(0, "", "")
	one.Finds, other.People = []api.DeadFind{}, []api.DeadPerson{}
	if ask(one) != ask(could(2)) || ask(other) != ask(could(0, "", "")) {
		t.Errorf("%s, %s", ask(one), ask(other))
	}
}
