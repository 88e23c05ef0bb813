package name_test

import (
	"fmt"
	"math/rand"
	"slices"
	"strings"
	"testing"

	"clavendier/api"
	"clavendier/name"
)

// ask asks everything of books.
func ask(b api.NameBook) string {
	truths, e1 := name.Truths(b)
	joined, e2 := name.Joined(b)
	people, e3 := name.People(b)
	wrong, e4 := name.Wrong(b)
	best, e5 := name.Ask(b)
	list := []string{fmt.Sprint(name.Check(b), name.CheckEar(b.Ear), truths, e1, joined, e2, people, e3, wrong, e4, best, e5)}
	for one := range b.Lines {
		for other := range b.Lines {
			can, e1 := name.Can(b, one, other)
			kind, e2 := name.Kind(b, one, other)
			is, e3 := name.IsTruth(b, pairs(one, other))
			near, e4 := name.Near(b.Ear, b.Lines[one].Heard, b.Lines[other].Heard)
			list = append(list, fmt.Sprint(can, e1, kind, e2, is, e3, near, e4))
		}
	}
	return strings.Join(list, "; ")
}

// isSubset reports whether all pairs of a list are in another one.
func isSubset(list, all []api.NamePair) bool {
	return !slices.ContainsFunc(list, func(p api.NamePair) bool { return !slices.Contains(all, p) })
}

// P2.1, P2.2: names, and lines, are compared as the plainest calculation does it.
func TestNearAsCalculatedPlainly(t *testing.T) {
	r := rand.New(rand.NewSource(1))
	ones := 0
	for range 3000 {
		e := someEar(r)
		one := someName(r)
		other := misheard(r, e, one)
		if r.Intn(3) == 0 {
			other = someName(r)
		}
		must, asOne := naiveNear(e, one, other)
		code := api.OK
		if asOne {
			ones++
		} else {
			must, code = 0, api.ErrNone
		}
		got, f := name.Near(e, one, other)
		want(t, fmt.Sprintf("%v: Near %s %s", e, one, other), got, f, must, code)
	}
	if ones < 300 || ones > 2700 {
		t.Errorf("%d of 3000 are heard as one: too few of a kind", ones)
	}
}

// P2.2 to P2.8, P2.10: all functions do as the plainest calculation does.
func TestAsCalculatedPlainly(t *testing.T) {
	r := rand.New(rand.NewSource(2))
	some, none := 0, 0
	for range 1500 {
		b := someBook(r, r.Intn(9))
		call := fmt.Sprintf("%v: ", b)
		truths := naiveTruths(b)
		code, ask, asked := api.OK, 0, api.OK
		var joined []api.NamePair
		var people api.Span
		switch len(truths) {
		case 0:
			none++
			code, asked = api.ErrNameNot, api.ErrNameNot
		case 1:
			asked = api.ErrNone
		default:
			some++
			ask = naiveAsk(b, truths)
		}
		if code == api.OK {
			joined, people = naiveJoined(b, truths), naivePeople(b, truths)
		}
		n, e := name.Truths(b)
		want(t, call+"Truths", n, e, len(truths), api.OK)
		gotJoined, e := name.Joined(b)
		wantList(t, call+"Joined", gotJoined, e, joined, code)
		gotPeople, e := name.People(b)
		want(t, call+"People", gotPeople, e, people, code)
		wrong, e := name.Wrong(b)
		wantList(t, call+"Wrong", wrong, e, naiveWrong(b), api.OK)
		n, e = name.Ask(b)
		want(t, call+"Ask", n, e, ask, asked)
		linesAsCalculatedPlainly(t, b, truths)
	}
	if some < 300 || none < 200 {
		t.Errorf("%d books of several truths, %d of none: too few of a kind", some, none)
	}
}

func linesAsCalculatedPlainly(t *testing.T, b api.NameBook, truths [][]api.NamePair) {
	for one := range b.Lines {
		for other := range b.Lines {
			call := fmt.Sprintf("%v, %d, %d: ", b, one, other)
			can, e := name.Can(b, one, other)
			want(t, call+"Can", can, e, naiveCan(b, one, other), api.OK)
			must, code := 0, api.OK
			switch {
			case b.Lines[one].Book != 0 || b.Lines[other].Book != 1:
				code = api.ErrNameAsk
			case len(truths) == 0:
				code = api.ErrNameNot
			default:
				must = naiveKind(truths, one, other)
			}
			kind, e := name.Kind(b, one, other)
			want(t, call+"Kind", kind, e, must, code)
		}
	}
}

// P2.3: just those lists are truths of which the chapter says so.
func TestIsTruthAsCalculatedPlainly(t *testing.T) {
	r := rand.New(rand.NewSource(3))
	for range 400 {
		b := someBook(r, r.Intn(7))
		truths := naiveTruths(b)
		for _, list := range truths {
			is, e := name.IsTruth(b, list)
			want(t, fmt.Sprintf("%v: IsTruth %v", b, list), is, e, true, api.OK)
		}
		for range 10 {
			var list []api.NamePair
			if len(truths) > 0 && r.Intn(2) == 0 {
				list = slices.Clone(truths[r.Intn(len(truths))])
			}
			for range r.Intn(3) {
				p := api.NamePair{One: r.Intn(len(b.Lines)+2) - 1, Other: r.Intn(len(b.Lines)+2) - 1}
				list = slices.Insert(list, r.Intn(len(list)+1), p)
			}
			is, e := name.IsTruth(b, list)
			want(t, fmt.Sprintf("%v: IsTruth %v", b, list), is, e, naiveIsTruth(b, list), api.OK)
		}
	}
}

// P2.10: whoever truly came by, the true pairs are a truth, and what is returned is so.
func TestJoinedOnlyIfNoTruthKeepsThemApart(t *testing.T) {
	r := rand.New(rand.NewSource(4))
	met, sure := 0, 0
	for range 1500 {
		b, truly := cameBy(r)
		call := fmt.Sprintf("%v, %v: ", b, truly)
		met += len(truly)
		is, e := name.IsTruth(b, truly)
		want(t, call+"IsTruth", is, e, true, api.OK)
		joined, e := name.Joined(b)
		if e != api.OK || !isSubset(joined, truly) {
			t.Errorf("%sJoined: %v, error %d", call, joined, e)
		}
		sure += len(joined)
		people, e := name.People(b)
		if n := len(b.Lines) - len(truly); e != api.OK || people.Low > n || n > people.High {
			t.Errorf("%sPeople: %v, error %d, but there were %d", call, people, e, n)
		}
		wrong, e := name.Wrong(b)
		wantList(t, call+"Wrong", wrong, e, nil, api.OK)
		for _, p := range truly {
			if kind, e := name.Kind(b, p.One, p.Other); kind == 0 || e != api.OK {
				t.Errorf("%sKind of %v: %d, error %d", call, p, kind, e)
			}
		}
	}
	if met < 500 || sure < 200 {
		t.Errorf("%d true pairs, %d joined: too few of a kind", met, sure)
	}
}

// P2.10: both ends of the number of people are so in a truth.
func TestEndsOfPeopleAreTrue(t *testing.T) {
	r := rand.New(rand.NewSource(5))
	for range 300 {
		b, _ := cameBy(r)
		people, _ := name.People(b)
		var low, high bool
		for _, list := range naiveTruths(b) {
			low = low || len(b.Lines)-len(list) == people.Low
			high = high || len(b.Lines)-len(list) == people.High
		}
		if !low || !high {
			t.Errorf("%v: in no truth are both ends of %v", b, people)
		}
	}
}

// P2.7, P2.11: without the lines that are returned there is a truth, without fewer there is none.
func TestLinesThatMustBeWrong(t *testing.T) {
	r := rand.New(rand.NewSource(6))
	longest := 0
	for range 400 {
		b := someBook(r, r.Intn(8))
		b.Lost = r.Intn(3)
		wrong, e := name.Wrong(b)
		if e != api.OK {
			t.Fatalf("%v: error %d", b, e)
		}
		longest = max(longest, len(wrong))
		for _, out := range subsets(len(b.Lines)) {
			n, e := name.Truths(without(b, out))
			if e != api.OK {
				t.Fatalf("%v: error %d", b, e)
			}
			if n > 0 {
				wantList(t, fmt.Sprintf("%v: Wrong", b), wrong, api.OK, out, api.OK)
				break
			}
		}
	}
	if longest < 4 {
		t.Errorf("no more than %d lines were wrong in any books", longest)
	}
}

// P2.12: names are equally far apart in either order, and not at all from themselves.
func TestEitherOrder(t *testing.T) {
	r := rand.New(rand.NewSource(7))
	for range 1000 {
		e := someEar(r)
		one := someName(r)
		other := misheard(r, e, one)
		a, f := name.Near(e, one, other)
		b, g := name.Near(e, other, one)
		want(t, fmt.Sprintf("%v: Near %s %s", e, other, one), b, g, a, f)
		a, f = name.Near(e, one, one)
		want(t, fmt.Sprintf("%v: Near %s twice", e, one), a, f, 0, api.OK)
	}
}

// P2.12: an ear that mishears more keeps none apart that were heard as one.
func TestEarsThatMishearMore(t *testing.T) {
	r := rand.New(rand.NewSource(8))
	heard := 0
	for range 2000 {
		e := api.NameEar{Alike: []string{"ab", "cd"}, Mute: "h"[:r.Intn(2)], Slips: r.Intn(3)}
		slips, joined := e, e
		slips.Slips++
		joined.Alike = []string{"abcd"}
		one := someName(r)
		other := misheard(r, slips, one)
		n, f := name.Near(e, one, other)
		if f != api.OK {
			continue
		}
		heard++
		for _, wider := range []api.NameEar{slips, joined} {
			if m, g := name.Near(wider, one, other); g != api.OK || m > n {
				t.Errorf("%s and %s: %d with %v, but %d, error %d with %v", one, other, n, e, m, g, wider)
			}
		}
	}
	if heard < 500 {
		t.Errorf("%d of 2000 are heard as one: too few", heard)
	}
}

// P2.13: with more that can be lost, a wider Way, or more Slips no truth is lost, and no more is joined.
func TestNoTruthIsLost(t *testing.T) {
	r := rand.New(rand.NewSource(9))
	compared := 0
	for range 600 {
		b := someBook(r, r.Intn(8))
		joined, e := name.Joined(b)
		lost, low, high, slips := b, b, b, b
		lost.Lost++
		low.Way.Low = max(0, low.Way.Low-1)
		high.Way.High++
		slips.Ear.Slips = min(api.NameSlips, slips.Ear.Slips+1)
		for _, more := range []api.NameBook{lost, low, high, slips} {
			for _, list := range naiveTruths(b) {
				is, f := name.IsTruth(more, list)
				want(t, fmt.Sprintf("%v: IsTruth %v", more, list), is, f, true, api.OK)
			}
			if e != api.OK {
				continue
			}
			compared++
			if now, f := name.Joined(more); f != api.OK || !isSubset(now, joined) {
				t.Errorf("%v: %v; with more, %v: %v, error %d", b, joined, more, now, f)
			}
		}
	}
	if compared < 500 {
		t.Errorf("%d books of a truth: too few", compared)
	}
}

// P2.14: whatever is answered, no more truths are left than at the worst about any other line.
func TestTheLineThatIsAskedFor(t *testing.T) {
	r := rand.New(rand.NewSource(10))
	asked := 0
	for range 600 {
		b := someBook(r, 3+r.Intn(5))
		b.Lost = r.Intn(8)
		best, e := name.Ask(b)
		if e != api.OK {
			continue
		}
		asked++
		truths := naiveTruths(b)
		for line := range b.Lines {
			if naiveWorst(b, truths, best) > naiveWorst(b, truths, line) {
				t.Errorf("%v: %d is asked for, but %d leaves fewer truths", b, best, line)
			}
		}
	}
	if asked < 200 {
		t.Errorf("%d of 600 books have something to ask: too few", asked)
	}
}

// P2.9, R4: arguments are not changed, not even behind their ends.
func TestArgumentsAreRead(t *testing.T) {
	r := rand.New(rand.NewSource(11))
	for range 100 {
		b := someBook(r, r.Intn(9))
		lines := append(slices.Clone(b.Lines), line(0, 1, "a"), line(1, 2, "b"))
		groups := append(slices.Clone(b.Ear.Alike), "xy", "vw")
		list := append(pairs(0, 1), pairs(2, 3)...)
		keptLines, keptGroups, keptList := slices.Clone(lines), slices.Clone(groups), slices.Clone(list)
		b.Lines, b.Ear.Alike = lines[:len(b.Lines)], groups[:len(b.Ear.Alike)]
		ask(b)
		name.IsTruth(b, list[:1])
		if !slices.Equal(lines, keptLines) || !slices.Equal(groups, keptGroups) || !slices.Equal(list, keptList) {
			t.Fatalf("%v: an argument was changed", b)
		}
	}
}

// P2.9, R4: results are new memory, and nothing of an argument is kept.
func TestResultsAreNew(t *testing.T) {
	b := book(1)
	joined, _ := name.Joined(b)
	wrong, _ := name.Wrong(book(0))
	if len(joined) != 1 || len(wrong) != 1 {
		t.Fatalf("%v, %v", joined, wrong)
	}
	joined[0], wrong[0] = api.NamePair{One: 7, Other: 8}, 9
	b.Lines[1], b.Ear.Alike[0] = line(0, 1, "a"), "xy"
	again, e := name.Joined(book(1))
	wantList(t, "Joined", again, e, pairs(1, 3), api.OK)
	wrongAgain, e := name.Wrong(book(0))
	wantList(t, "Wrong", wrongAgain, e, []int{2}, api.OK)
	if joined[0] != (api.NamePair{One: 7, Other: 8}) || wrong[0] != 9 {
		t.Error("a result was changed by a later call")
	}
}

// P2: the same arguments have the same result, whatever was asked before.
func TestSameAgain(t *testing.T) {
	r := rand.New(rand.NewSource(12))
	var books []api.NameBook
	var answers []string
	for range 60 {
		b := someBook(r, r.Intn(10))
		books, answers = append(books, b), append(answers, ask(b))
	}
	for _, i := range r.Perm(len(books)) {
		if ask(books[i]) != answers[i] {
			t.Errorf("%v: another answer", books[i])
		}
	}
}
