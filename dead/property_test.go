package dead_test

import (
	"fmt"
	"math/rand"
	"slices"
	"testing"

	"clavendier/api"
	"clavendier/dead"
)

// enough reports which kinds of cases came too seldom.
func enough(t *testing.T, least int, kinds map[string]int, must ...string) {
	t.Helper()
	for _, kind := range must {
		if kinds[kind] < least {
			t.Errorf("%s: %d cases are too few: %v", kind, kinds[kind], kinds)
		}
	}
}

// P10.1 to P10.7: all functions do as the plainest calculation does.
func TestAsCalculatedPlainly(t *testing.T) {
	r := rand.New(rand.NewSource(1))
	kinds := map[string]int{}
	for i := range 3000 {
		b := anyBook(r)
		if i%100 == 0 {
			b = someBook(r, 5, 4+r.Intn(3))
		}
		call := fmt.Sprintf("%v: ", b)
		for k := range b.Finds {
			for p := range b.People {
				can, e := dead.Can(b, k, p)
				want(t, fmt.Sprint(call, "Can of ", k, " and ", p), can, e, naiveCan(b, k, p), api.OK)
				kinds[fmt.Sprint("can ", can)]++
			}
		}
		truths := naiveTruths(b)
		n, e := dead.Truths(b)
		want(t, call+"Truths", n, e, len(truths), api.OK)
		if len(truths) > 0 {
			kinds["truth"]++
			toldAsCalculatedPlainly(t, b, truths, kinds)
		} else {
			kinds["no truth"]++
			wantNot(t, call, b, max(0, len(b.Finds)-1), api.ErrDeadNot)
		}
		must, code := naiveWrong(b)
		wrong, e := dead.Wrong(b)
		wantList(t, call+"Wrong", wrong, e, must, code)
		kinds[fmt.Sprint(len(must), " wrong, error ", code)]++
	}
	enough(t, 30, kinds, "can true", "can false", "truth", "no truth", "0 wrong, error 0", "1 wrong, error 0", "2 wrong, error 0", "0 wrong, error 4", "known", "not known", "a stranger in each truth", "a stranger in some truth", "one who truly must be dead", "ask: error 0", "ask: error 4", "ask: a later find", "ask: not the most answers", "ask: a stranger is the worst")
}

func toldAsCalculatedPlainly(t *testing.T, b api.DeadBook, truths [][]int, kinds map[string]int) {
	t.Helper()
	call := fmt.Sprintf("%v: ", b)
	for k := range b.Finds {
		must := naiveWho(b, truths, k)
		who, e := dead.Who(b, k)
		wantList(t, fmt.Sprint(call, "Who of ", k), who, e, must, api.OK)
		switch {
		case len(must) == 1 && must[0] == -1:
			kinds["a stranger in each truth"]++
		case len(must) == 1:
			kinds["known"]++
		case must[0] == -1:
			kinds["a stranger in some truth"]++
		default:
			kinds["not known"]++
		}
	}
	known, e := dead.Known(b)
	wantList(t, call+"Known", known, e, naiveKnown(b, truths), api.OK)
	must := naiveLiving(b, truths)
	living, e := dead.Living(b)
	wantList(t, call+"Living", living, e, must, api.OK)
	if len(must) < len(b.People) {
		kinds["one who truly must be dead"]++
	}
	best, code := naiveAsk(b, truths)
	n, e := dead.Ask(b)
	want(t, call+"Ask", n, e, best, code)
	countAsked(b, truths, best, code, kinds)
}

// countAsked counts what kind of find is the one to ask for.
func countAsked(b api.DeadBook, truths [][]int, best int, code api.Errno, kinds map[string]int) {
	kinds[fmt.Sprint("ask: error ", code)]++
	if code != api.OK {
		return
	}
	if best > 0 {
		kinds["ask: a later find"]++
	}
	for k := range b.Finds {
		if len(naiveWho(b, truths, k)) > len(naiveWho(b, truths, best)) {
			kinds["ask: not the most answers"]++
		}
		if left := naiveLeft(truths, k, -1); left > 0 && left == naiveWorst(b, truths, k) {
			kinds["ask: a stranger is the worst"]++
		}
	}
}

// P10.2: of all lists just those are truths that the chapter allows.
func TestAllLists(t *testing.T) {
	r := rand.New(rand.NewSource(2))
	kinds := map[bool]int{}
	for range 150 {
		b := someBook(r, r.Intn(4), r.Intn(5))
		for _, length := range list(len(b.Finds), r.Intn(4)) {
			for _, who := range lists(length, len(b.People)+1) {
				is, e := dead.IsTruth(b, who)
				want(t, fmt.Sprintf("%v: IsTruth of %v", b, who), is, e, naiveIsTruth(b, who), api.OK)
				kinds[is]++
			}
		}
	}
	if kinds[true] < 100 || kinds[false] < 100 {
		t.Errorf("too few cases: %v", kinds)
	}
}

// P10.9: whoever the dead truly are, and whatever was left on them of what they had, what is told is so.
func TestWhomTheDeadTrulyAre(t *testing.T) {
	r := rand.New(rand.NewSource(3))
	kinds := map[string]int{}
	for range 2000 {
		b, truly := trulyDead(r)
		call := fmt.Sprintf("%v, truly %v: ", b, truly)
		is, e := dead.IsTruth(b, truly)
		want(t, call+"IsTruth", is, e, true, api.OK)
		known, e := dead.Known(b)
		if e != api.OK || len(known) != len(truly) {
			t.Fatalf("%sKnown: %v, error %d", call, known, e)
		}
		for k, person := range truly {
			if who, e := dead.Who(b, k); e != api.OK || !slices.Contains(who, person) {
				t.Errorf("%sWho of %d: %v, error %d", call, k, who, e)
			}
			if known[k] != -1 && known[k] != person {
				t.Errorf("%sKnown: %v", call, known)
			}
			if known[k] != -1 {
				kinds["known"]++
			} else if person != -1 {
				kinds["not known"]++
			} else {
				kinds["a stranger"]++
			}
		}
		living, e := dead.Living(b)
		for person := range b.People {
			lives := !slices.Contains(truly, person)
			if e != api.OK || lives && !slices.Contains(living, person) {
				t.Errorf("%sLiving: %v, error %d", call, living, e)
			}
			kinds[fmt.Sprint("lives ", lives, ", told ", slices.Contains(living, person))]++
		}
		wrong, e := dead.Wrong(b)
		wantList(t, call+"Wrong", wrong, e, nil, api.OK)
	}
	enough(t, 100, kinds, "known", "not known", "a stranger", "lives true, told true", "lives false, told true", "lives false, told false")
}

// settledTo is how many truths of a book are left once it is known who a find is: as many as the other finds have without this person, or without one of the strangers.
func settledTo(t *testing.T, b api.DeadBook, find, person int) int {
	t.Helper()
	if person == -1 && b.Strangers == 0 {
		return 0
	}
	if person != -1 {
		if can, _ := dead.Can(b, find, person); !can {
			return 0
		}
	}
	rest := cloned(b)
	rest.Finds = slices.Delete(rest.Finds, find, find+1)
	if person == -1 {
		rest.Strangers--
	} else {
		rest.People = slices.Delete(rest.People, person, person+1)
	}
	n, e := dead.Truths(rest)
	if e != api.OK {
		t.Errorf("%v: error %d", rest, e)
	}
	return n
}

// P10.10: as many truths as there are with each number for a find make all of them, and what is told is so in one.
func TestTruthsWithEachNumber(t *testing.T) {
	r := rand.New(rand.NewSource(4))
	kinds := map[string]int{}
	for range 1500 {
		b := anyBook(r)
		call := fmt.Sprintf("%v: ", b)
		all, _ := dead.Truths(b)
		for k := range b.Finds {
			sum, must, most := 0, list(), 0
			for person := -1; person < len(b.People); person++ {
				left := settledTo(t, b, k, person)
				if left > 0 {
					must = append(must, person)
				}
				sum, most = sum+left, max(most, left)
			}
			want(t, fmt.Sprint(call, "truths with each number for ", k), sum, api.OK, all, api.OK)
			if all == 0 {
				kinds["no truth"]++
				continue
			}
			who, e := dead.Who(b, k)
			wantList(t, fmt.Sprint(call, "Who of ", k), who, e, must, api.OK)
			known, e := dead.Known(b)
			if sure := must[0]; len(must) == 1 {
				want(t, fmt.Sprint(call, "Known: ", k), known[k], e, sure, api.OK)
				kinds["one"]++
			} else {
				want(t, fmt.Sprint(call, "Known: ", k), known[k], e, -1, api.OK)
				kinds["several"]++
			}
		}
	}
	enough(t, 100, kinds, "no truth", "one", "several")
}

// fewerSigns lists changes of a book that take a sign from a find.
func fewerSigns(b api.DeadBook) map[string]change {
	all := map[string]change{}
	for k, f := range b.Finds {
		if f.Letter != "" {
			all[fmt.Sprint("without the letter of ", k)] = letter(k, "")
		}
		if f.Buttons >= 0 {
			all[fmt.Sprint("without the buttons of ", k)] = func(b *api.DeadBook) { b.Finds[k].Buttons = -1 }
		}
		for mint := range api.DeadMints {
			if f.Coins>>mint&1 == 1 {
				all[fmt.Sprint("without the coin ", mint, " of ", k)] = func(b *api.DeadBook) { b.Finds[k].Coins -= 1 << mint }
			}
		}
	}
	return all
}

// P10.11: with a sign less, or one of the missing more, no truth is lost.
func TestNoTruthIsLost(t *testing.T) {
	r := rand.New(rand.NewSource(5))
	kinds := map[string]int{}
	for range 300 {
		b := someBook(r, 1+r.Intn(3), r.Intn(5))
		truths := naiveTruths(b)
		changes := fewerSigns(b)
		changes["with one of the missing more"] = func(b *api.DeadBook) {
			b.People = append(b.People, person(someName(r), someSet(r), someSet(r), r.Intn(30)))
		}
		for what, c := range changes {
			more := changed(b, c)
			call := fmt.Sprintf("%v, %s: ", b, what)
			for _, who := range truths {
				is, e := dead.IsTruth(more, who)
				want(t, fmt.Sprint(call, "IsTruth of ", who), is, e, true, api.OK)
			}
			n, e := dead.Truths(more)
			if e != api.OK || n < len(truths) {
				t.Errorf("%sTruths: %d, error %d; before %d", call, n, e, len(truths))
			}
			if n > len(truths) {
				kinds["more"]++
			} else {
				kinds["as many"]++
			}
			for k := range b.Finds {
				before, _ := dead.Who(b, k)
				now, _ := dead.Who(more, k)
				if slices.ContainsFunc(before, func(person int) bool { return !slices.Contains(now, person) }) {
					t.Errorf("%sWho of %d: %v, and then %v", call, k, before, now)
				}
			}
		}
	}
	enough(t, 100, kinds, "more", "as many")
}

// P10.11: without one of the missing who can live there still is a truth, and without one who cannot there is none.
func TestWithoutOneWhoCanLive(t *testing.T) {
	r := rand.New(rand.NewSource(6))
	kinds := map[bool]int{}
	for range 1500 {
		b := anyBook(r)
		living, e := dead.Living(b)
		if e != api.OK {
			continue
		}
		for person := range b.People {
			rest := cloned(b)
			rest.People = slices.Delete(rest.People, person, person+1)
			lives := slices.Contains(living, person)
			n, e := dead.Truths(rest)
			want(t, fmt.Sprintf("%v, Living: %v; Truths above 0 without %d", b, living, person), n > 0, e, lives, api.OK)
			kinds[lives]++
		}
	}
	if kinds[true] < 100 || kinds[false] < 100 {
		t.Errorf("too few cases: %v", kinds)
	}
}

// P10.6, P10.12: without the letters that are told there is a truth; without fewer, or those of an earlier list of as many finds, there is none.
func TestTheLettersThatCannotBeTheirs(t *testing.T) {
	r := rand.New(rand.NewSource(7))
	kinds := map[string]int{}
	for range 3000 {
		b := anyBook(r)
		wrong, e := dead.Wrong(b)
		call := fmt.Sprintf("%v, Wrong: %v, error %d; ", b, wrong, e)
		kinds[fmt.Sprint(len(wrong), " wrong, error ", e)]++
		for _, list := range letters(b) {
			must := e == api.OK && slices.Equal(list, wrong)
			n, f := dead.Truths(unread(b, list))
			want(t, fmt.Sprint(call, "Truths above 0 without the letters of ", list), n > 0, f, must, api.OK)
			if must {
				break
			}
		}
	}
	enough(t, 30, kinds, "0 wrong, error 0", "1 wrong, error 0", "2 wrong, error 0", "0 wrong, error 4")
}

// P10.7, P10.13: whatever is answered, no more truths are left than at the worst about any other find, and more at the worst about one before.
func TestTheBestOneToAsk(t *testing.T) {
	r := rand.New(rand.NewSource(8))
	kinds := map[string]int{}
	for range 2000 {
		b := anyBook(r)
		best, e := dead.Ask(b)
		kinds[fmt.Sprint("error ", e)]++
		if e != api.OK {
			continue
		}
		worst := make([]int, len(b.Finds))
		for k := range worst {
			for person := -1; person < len(b.People); person++ {
				worst[k] = max(worst[k], settledTo(t, b, k, person))
			}
		}
		for k, left := range worst {
			if left < worst[best] || left == worst[best] && k < best {
				t.Errorf("%v: Ask: %d, not %d: at the worst there are left %v", b, best, k, worst)
			}
			if left > worst[best] {
				kinds["a worse one"]++
			}
		}
		if slices.Index(worst, worst[best]) > 0 {
			kinds["a later one"]++
		}
	}
	enough(t, 100, kinds, "error 0", "error 4", "error 102", "a worse one", "a later one")
}

// P10.8, R4: arguments are not changed, not even behind their ends.
func TestArgumentsAreRead(t *testing.T) {
	r := rand.New(rand.NewSource(9))
	for range 200 {
		b := anyBook(r)
		finds := append(slices.Clone(b.Finds), find(1, 2, "a", 3, 4), find(2, 3, "b", 4, 5))
		people := append(slices.Clone(b.People), person("a", 1, 2, 3), person("b", 2, 3, 4))
		groups := append(slices.Clone(b.Ear.Alike), "xy", "vw")
		numbers := list(0, 1, 2, 3, 4, 5, 6, 7)
		keptFinds, keptPeople, keptGroups := slices.Clone(finds), slices.Clone(people), slices.Clone(groups)
		b.Finds, b.People, b.Ear.Alike = finds[:len(b.Finds)], people[:len(b.People)], groups[:len(b.Ear.Alike)]
		ask(b)
		for n := range len(numbers) {
			dead.IsTruth(b, numbers[:n])
		}
		if !slices.Equal(finds, keptFinds) || !slices.Equal(people, keptPeople) || !slices.Equal(groups, keptGroups) || !slices.Equal(numbers, list(0, 1, 2, 3, 4, 5, 6, 7)) {
			t.Fatalf("%v: an argument was changed", b)
		}
	}
}

// P10.8, R4: results are new memory, and nothing of an argument is kept.
func TestResultsAreNew(t *testing.T) {
	b, torn := book(), book(letter(2, "maria"), letter(0, "ana"))
	who, _ := dead.Who(b, 1)
	known, _ := dead.Known(b)
	living, _ := dead.Living(b)
	wrong, _ := dead.Wrong(torn)
	if len(who) != 3 || len(known) != 3 || len(living) != 3 || len(wrong) != 2 {
		t.Fatalf("%v, %v, %v, %v", who, known, living, wrong)
	}
	who[0], known[0], living[0], wrong[0] = 66, 77, 88, 99
	b.Finds[0], b.People[1], torn.Finds[2] = find(0, 0, "x", 0, 0), person("y", 0, 0, 0), find(0, 0, "z", 0, 0)
	again, e := dead.Who(book(), 1)
	wantList(t, "Who", again, e, list(0, 1, 3), api.OK)
	again, e = dead.Known(book())
	wantList(t, "Known", again, e, list(-1, -1, 2), api.OK)
	again, e = dead.Living(book())
	wantList(t, "Living", again, e, list(0, 1, 3), api.OK)
	again, e = dead.Wrong(book(letter(2, "maria"), letter(0, "ana")))
	wantList(t, "Wrong", again, e, list(0, 2), api.OK)
	if !slices.Equal(who, list(66, 1, 3)) || !slices.Equal(known, list(77, -1, 2)) || !slices.Equal(living, list(88, 1, 3)) || !slices.Equal(wrong, list(99, 2)) {
		t.Error("a result was changed by a later call")
	}
}

// P2: the same arguments have the same result, whatever was asked before.
func TestSameAgain(t *testing.T) {
	r := rand.New(rand.NewSource(10))
	var books []api.DeadBook
	var answers []string
	for range 150 {
		b := someBook(r, r.Intn(6), r.Intn(7))
		if r.Intn(8) == 0 {
			b.Strangers = 6
		}
		books, answers = append(books, b), append(answers, ask(b))
	}
	for _, i := range slices.Concat(r.Perm(len(books)), r.Perm(len(books))) {
		if ask(books[i]) != answers[i] {
			t.Errorf("%v: another answer", books[i])
		}
	}
}

// P1: whatever is given, every function returns.
func TestAnyArguments(t *testing.T) {
	r := rand.New(rand.NewSource(11))
	valid := 0
	for range 3000 {
		b := garbled(r, someBook(r, 1+r.Intn(5), 1+r.Intn(6)))
		if dead.Check(b) == api.OK {
			valid++
			ask(b)
			dead.IsTruth(b, list(number(r), number(r), number(r))[:r.Intn(4)])
			continue
		}
		wantError(t, fmt.Sprintf("%v", b), b, number(r), number(r), api.ErrDead)
	}
	if valid < 100 || valid > 2900 {
		t.Errorf("%d of 3000 books are valid", valid)
	}
}

// number is any number, often one near to an end.
func number(r *rand.Rand) int {
	return list(-2, -1, 0, 1, 2, 5, 6, 7, 8, 255, 256, 999, 1000, -r.Int(), r.Int())[r.Intn(15)]
}

// garbled is a book of which some part was changed to anything.
func garbled(r *rand.Rand, b api.DeadBook) api.DeadBook {
	for range 1 + r.Intn(2) {
		f, p := &b.Finds[r.Intn(len(b.Finds))], &b.People[r.Intn(len(b.People))]
		switch r.Intn(9) {
		case 0:
			b.Strangers = number(r)
		case 1:
			f.Buttons = number(r)
		case 2:
			f.Coins = number(r)
		case 3:
			f.Day = api.Span{Low: number(r), High: number(r)}
		case 4:
			f.Letter = texts("", "a", "A", "9", "hansel", "thirteenbytes")[r.Intn(6)]
		case 5:
			p.Name = texts("", "a", "A", "9", "hansel", "thirteenbytes")[r.Intn(6)]
		case 6:
			p.Buttons, p.Day = number(r), number(r)
		case 7:
			p.Coins = number(r)
		case 8:
			b.Finds, b.People = append(b.Finds, *f), append(b.People, *p)
		}
	}
	return b
}
