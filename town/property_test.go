package town_test

import (
	"fmt"
	"math/rand"
	"slices"
	"testing"

	"clavendier/api"
	"clavendier/house"
	"clavendier/town"
)

// enough reports which kinds of cases came too seldom.
func enough(t *testing.T, least int, kinds map[string]int, must ...string) {
	t.Helper()
	for _, kind := range must {
		if kinds[kind] < least {
			t.Errorf("%s: %d cases are too few: %v", kind, kinds[kind], kinds)
		}
	}
}

// P9.1 to P9.8: all functions do as the plainest calculation does.
func TestAsCalculatedPlainly(t *testing.T) {
	r := rand.New(rand.NewSource(1))
	kinds := map[string]int{}
	for range 5000 {
		b := someBook(r, []int{r.Intn(9), 6 + r.Intn(3)}[r.Intn(2)])
		call := fmt.Sprintf("%v: ", b)
		all := naiveAll(b)
		if n, e := house.Truths(b.House); n != len(all) || e != api.OK {
			t.Fatalf("%sof %d truths %d were found, error %d", call, n, len(all), e)
		}
		truths := naiveTruths(b, all)
		right, e := town.Right(b)
		want(t, call+"Right", right, e, len(truths) > 0, api.OK)
		if len(truths) > 0 {
			kinds["right"]++
			spansAsCalculatedPlainly(t, b, truths, kinds)
			listsAsCalculatedPlainly(t, b, truths, r.Intn(1000), kinds)
		} else {
			kinds["false"]++
			wantFalse(t, call, b, 0, 5, api.ErrTownFalse)
		}
		whoIsWrongAsCalculatedPlainly(t, b, all, kinds)
	}
	enough(t, 30, kinds, "right", "false", "no truth of the house", "0 wrong", "1 wrong", "2 wrong", "agrees 0", "agrees 1", "agrees 2", "error 0", "error 4", "a later town", "not the most nights", "ends apart", "lost apart", "shared", "not shared")
}

func spansAsCalculatedPlainly(t *testing.T, b api.TownBook, truths [][]int, kinds map[string]int) {
	t.Helper()
	call := fmt.Sprintf("%v: ", b)
	loose := api.Span{}
	asked := naiveAsked(b, truths)
	for k := range b.House.Towns {
		nights, e := town.Nights(b, k)
		want(t, fmt.Sprint(call, "Nights of ", k), nights, e, naiveSpan(truths, func(nights []int) int { return nights[k] }), api.OK)
		if nights.Low < nights.High {
			kinds["ends apart"]++
		}
		owes, e := town.Owes(b, k)
		want(t, fmt.Sprint(call, "Owes of ", k), owes, e, naiveSpan(truths, func(nights []int) int { return naiveOwes(b, nights, k) }), api.OK)
		loose = to(loose.Low+max(0, owes.Low-asked[k]), loose.High+max(0, owes.High-asked[k]))
	}
	lost, e := town.Lost(b)
	want(t, call+"Lost", lost, e, naiveLost(b, truths), api.OK)
	if lost != loose {
		kinds["lost apart"]++ // what is lost at most of each town is not lost of all at once
	}
}

func listsAsCalculatedPlainly(t *testing.T, b api.TownBook, truths [][]int, bill int, kinds map[string]int) {
	t.Helper()
	call := fmt.Sprintf("%v: ", b)
	asked, e := town.Asked(b)
	wantList(t, call+"Asked", asked, e, naiveAsked(b, truths), api.OK)
	share, e := town.Share(b, bill)
	if least := naiveLeast(b, truths); total(least) == 0 {
		kinds["not shared"]++
		wantList(t, fmt.Sprint(call, "Share of ", bill), share, e, nil, api.ErrNone)
	} else {
		kinds["shared"]++
		wantList(t, fmt.Sprint(call, "Share of ", bill), share, e, naiveShare(least, bill), api.OK)
	}
	must, code := naiveHear(b, truths)
	hear, e := town.Hear(b)
	want(t, call+"Hear", hear, e, must, code)
	kinds[fmt.Sprint("error ", code)]++
	if must > 0 {
		kinds["a later town"]++
	}
	for k := range b.House.Towns {
		if code == api.OK && distinct(truths, k) > distinct(truths, must) {
			kinds["not the most nights"]++
		}
	}
}

// distinct returns how many numbers of nights a town has in truths.
func distinct(truths [][]int, town int) int {
	numbers := map[int]bool{}
	for _, nights := range truths {
		numbers[nights[town]] = true
	}
	return len(numbers)
}

func whoIsWrongAsCalculatedPlainly(t *testing.T, b api.TownBook, all [][]int, kinds map[string]int) {
	t.Helper()
	call := fmt.Sprintf("%v: ", b)
	code, list := api.OK, []int(nil)
	if len(all) == 0 {
		code = api.ErrTownFalse
		kinds["no truth of the house"]++
	} else {
		list = naiveWrong(b, all)
		kinds[fmt.Sprint(len(list), " wrong")]++
	}
	wrong, e := town.Wrong(b)
	wantList(t, call+"Wrong", wrong, e, list, code)
	for k := range b.House.Towns {
		must := 0
		if code == api.OK {
			must = naiveAgrees(b, all, k)
			kinds[fmt.Sprint("agrees ", must)]++
		}
		n, e := town.Agrees(b, k)
		want(t, fmt.Sprint(call, "Agrees of ", k), n, e, must, code)
	}
}

// P9.10: whoever truly slept at the house, if what towns say is right, what is told is so.
func TestToTheBatz(t *testing.T) {
	r := rand.New(rand.NewSource(2))
	kinds := map[string]int{}
	for range 2500 {
		b, truly := sleptHere(r)
		call := fmt.Sprintf("%v, truly %v: ", b, truly)
		right, e := town.Right(b)
		want(t, call+"Right", right, e, true, api.OK)
		wrong, e := town.Wrong(b)
		wantList(t, call+"Wrong", wrong, e, nil, api.OK)
		asked, e := town.Asked(b)
		if e != api.OK || len(asked) != b.House.Towns {
			t.Fatalf("%sAsked: %v, error %d", call, asked, e)
		}
		for k, n := range truly {
			owes := naiveOwes(b, truly, k)
			if s, e := town.Nights(b, k); e != api.OK || !contains(s, n) {
				t.Errorf("%sNights of %d: %v, error %d", call, k, s, e)
			}
			if s, e := town.Owes(b, k); e != api.OK || !contains(s, owes) {
				t.Errorf("%sOwes of %d: %v, error %d", call, k, s, e)
			}
			if asked[k] < 0 || asked[k] > max(0, owes) {
				t.Errorf("%s%d owes %d, and is asked for %d", call, k, owes, asked[k])
			}
			if agrees, e := town.Agrees(b, k); e != api.OK || agrees == 0 {
				t.Errorf("%sAgrees of %d: %d, error %d", call, k, agrees, e)
			}
			if 0 < asked[k] && asked[k] < owes {
				kinds["asked for less"]++
			}
		}
		lost, e := town.Lost(b)
		if loss := naiveLoss(b, asked, truly); e != api.OK || !contains(lost, loss) {
			t.Errorf("%sLost: %v, error %d; truly %d", call, lost, e, loss)
		}
		if lost.Low < lost.High {
			kinds["lost between"]++
		}
	}
	enough(t, 100, kinds, "asked for less", "lost between")
}

// saying is a book in which towns say other spans.
func saying(b api.TownBook, says ...api.Span) api.TownBook {
	b.Says = says
	return b
}

// silent is what so many towns say that say nothing.
func silent(towns int) []api.Span { return slices.Repeat(spans(to(0, 10)), towns) }

// vectors lists all nights of each town within these spans.
func vectors(within []api.Span) [][]int {
	all := [][]int{nil}
	for _, s := range within {
		var more [][]int
		for _, nights := range all {
			for n := s.Low; n <= s.High; n++ {
				more = append(more, append(slices.Clone(nights), n))
			}
		}
		all = more
	}
	return all
}

// ofTruths lists those nights of each town that are so in a truth of a book: it can be right if towns say just these.
func ofTruths(b api.TownBook) [][]int {
	return slices.DeleteFunc(vectors(b.Says), func(nights []int) bool {
		says := make([]api.Span, len(nights))
		for k, n := range nights {
			says[k] = at(n)
		}
		right, e := town.Right(saying(b, says...))
		return !right || e != api.OK
	})
}

// P9.11: both ends of all that is told are so in a truth; the book can be right if towns say just the nights of it.
func TestEndsAreTrue(t *testing.T) {
	r := rand.New(rand.NewSource(3))
	kinds := map[string]int{}
	for range 800 {
		b := someBook(r, r.Intn(9))
		if b.House.Towns > 3 {
			continue
		}
		call := fmt.Sprintf("%v: ", b)
		truths := ofTruths(b)
		asked, e := town.Asked(b)
		if (len(truths) > 0) != (e == api.OK) {
			t.Errorf("%s%d truths, error %d", call, len(truths), e)
		}
		if e != api.OK {
			continue
		}
		kinds["right"]++
		for k := range b.House.Towns {
			s, e := town.Nights(b, k)
			want(t, fmt.Sprint(call, "Nights of ", k), s, e, naiveSpan(truths, func(nights []int) int { return nights[k] }), api.OK)
			s, e = town.Owes(b, k)
			want(t, fmt.Sprint(call, "Owes of ", k), s, e, naiveSpan(truths, func(nights []int) int { return naiveOwes(b, nights, k) }), api.OK)
		}
		lost, e := town.Lost(b)
		want(t, call+"Lost", lost, e, naiveSpan(truths, func(nights []int) int { return naiveLoss(b, asked, nights) }), api.OK)
		if lost.Low < lost.High {
			kinds["lost between"]++
		}
	}
	enough(t, 30, kinds, "right", "lost between")
}

// P9.11: if towns say nothing, their nights are those of the house, and those of all towns are all of its nights.
func TestTownsThatSayNothing(t *testing.T) {
	r := rand.New(rand.NewSource(4))
	kinds := map[string]int{}
	for range 1000 {
		b := someBook(r, r.Intn(9))
		b.Says = silent(b.House.Towns)
		call := fmt.Sprintf("%v: ", b)
		all, e := house.Total(b.House)
		right, f := town.Right(b)
		want(t, call+"Right", right, f, e == api.OK, api.OK)
		if !right {
			wantFalse(t, call, b, 0, 5, api.ErrTownFalse)
			continue
		}
		var nights []api.Span
		sum := api.Span{}
		for k := range b.House.Towns {
			must, e := house.Heads(b.House, k)
			got, f := town.Nights(b, k)
			want(t, fmt.Sprint(call, "Nights of ", k), got, f, must, e)
			nights = append(nights, got)
			sum = to(sum.Low+got.Low, sum.High+got.High)
			n, e := town.Agrees(b, k)
			want(t, fmt.Sprint(call, "Agrees of ", k), n, e, 2, api.OK)
		}
		if sum.Low > all.Low || sum.High < all.High {
			t.Errorf("%sthe nights of all towns are %v, all nights %v", call, sum, all)
		}
		if sum != all {
			kinds["towns less at once"]++
		}
		got := naiveSpan(ofTruths(saying(b, nights...)), total)
		want(t, call+"all nights of the truths", got, api.OK, all, api.OK)
		kinds["right"]++
	}
	enough(t, 30, kinds, "right", "towns less at once")
}

// P9.12: a bill is shared to the last batz, by the least nights.
func TestBillsAreShared(t *testing.T) {
	r := rand.New(rand.NewSource(5))
	kinds := map[string]int{}
	for range 600 {
		b := someBook(r, 1+r.Intn(8))
		bill := []int{r.Intn(20), r.Intn(1000), 1000000 - r.Intn(10)}[r.Intn(3)]
		call := fmt.Sprintf("%v: Share of %d: ", b, bill)
		share, e := town.Share(b, bill)
		if e != api.OK {
			continue
		}
		nights := make([]int, b.House.Towns)
		for k := range nights {
			s, _ := town.Nights(b, k)
			nights[k] = s.Low
		}
		all := total(nights)
		if len(share) != len(nights) || total(share) != bill {
			t.Fatalf("%s%v", call, share)
		}
		for k, batzen := range share {
			if batzen < bill*nights[k]/all || batzen > (bill*nights[k]+all-1)/all {
				t.Errorf("%s%v: not the part of %d, by %v", call, share, k, nights)
			}
			for other, more := range share {
				if nights[k] > nights[other] && batzen < more {
					t.Errorf("%s%v: %d has more nights than %d, by %v", call, share, k, other, nights)
				}
			}
			if batzen*all > bill*nights[k] {
				kinds["rounded up"]++
			}
		}
		kinds["shared"]++
	}
	enough(t, 100, kinds, "shared", "rounded up")
}

// isWithin reports whether all of a span lies in another one.
func isWithin(s, all api.Span) bool { return all.Low <= s.Low && s.High <= all.High }

// P9.13: if a town says less, no town owes anything else than before could be.
func TestTownsThatSayLess(t *testing.T) {
	r := rand.New(rand.NewSource(6))
	kinds := map[string]int{}
	for range 4000 {
		b := someBook(r, 1+r.Intn(8))
		k := r.Intn(b.House.Towns)
		says := slices.Clone(b.Says)
		had := says[k]
		says[k].Low += r.Intn(had.High - had.Low + 1)
		says[k].High -= r.Intn(had.High - says[k].Low + 1)
		less := saying(b, says...)
		call := fmt.Sprintf("%v, then %v: ", b, says)
		right, _ := town.Right(b)
		still, _ := town.Right(less)
		if still && !right {
			t.Errorf("%sRight only if %d says less", call, k)
		}
		if !still {
			continue
		}
		for other := range b.House.Towns {
			before, _ := town.Owes(b, other)
			now, e := town.Owes(less, other)
			if e != api.OK || !isWithin(now, before) {
				t.Errorf("%sOwes of %d: %v, and then %v, error %d", call, other, before, now, e)
			}
			if now != before {
				kinds["known better"]++
				if other != k {
					kinds["known better of another one"]++
				}
			}
		}
	}
	enough(t, 20, kinds, "known better", "known better of another one")
}

// P9.13: with a higher rate none owes less.
func TestHigherRates(t *testing.T) {
	r := rand.New(rand.NewSource(7))
	kinds := map[string]int{}
	for range 400 {
		b := someBook(r, 1+r.Intn(8))
		higher := b
		higher.Rate = b.Rate + r.Intn(api.TownRate-b.Rate+1)
		call := fmt.Sprintf("%v, then with the rate %d: ", b, higher.Rate)
		if right, _ := town.Right(b); !right {
			continue
		}
		for k := range b.House.Towns {
			before, e := town.Owes(b, k)
			now, f := town.Owes(higher, k)
			if e != api.OK || f != api.OK || now.Low < before.Low || now.High < before.High {
				t.Errorf("%sOwes of %d: %v, and then %v, errors %d and %d", call, k, before, now, e, f)
			}
			nights, _ := town.Nights(b, k)
			if more := higher.Rate - b.Rate; now != to(before.Low+more*nights.Low, before.High+more*nights.High) {
				t.Errorf("%sOwes of %d: %v, and then %v, for %v nights", call, k, before, now, nights)
			}
			if now.Low > before.Low {
				kinds["owes more"]++
			}
		}
	}
	enough(t, 100, kinds, "owes more")
}

// P9.14: if those say nothing that are told to be wrong, the book can be right; if fewer do, or an earlier list of as many, it cannot.
func TestTheTownsThatMustBeWrong(t *testing.T) {
	r := rand.New(rand.NewSource(8))
	kinds := map[string]int{}
	for range 4000 {
		b := someBook(r, r.Intn(9))
		wrong, e := town.Wrong(b)
		if e != api.OK {
			continue
		}
		kinds[fmt.Sprint(len(wrong), " wrong")]++
		for _, list := range towns(b.House.Towns) {
			says := slices.Clone(b.Says)
			for _, k := range list {
				says[k] = to(0, 10)
			}
			must := slices.Equal(list, wrong)
			right, e := town.Right(saying(b, says...))
			want(t, fmt.Sprintf("%v, Wrong: %v; Right without what %v say", b, wrong, list), right, e, must, api.OK)
			if must {
				break
			}
		}
	}
	enough(t, 50, kinds, "0 wrong", "1 wrong", "2 wrong")
}

// P9.9, R4: arguments are not changed, not even behind their ends.
func TestArgumentsAreRead(t *testing.T) {
	r := rand.New(rand.NewSource(10))
	for range 200 {
		b := someBook(r, r.Intn(9))
		lines := append(slices.Clone(b.House.Lines), line(0, 0, 0, "a"), line(1, 0, 0, "a"))
		bowls := append(slices.Clone(b.House.Bowls), to(7, 8), to(8, 9))
		groups := append(slices.Clone(b.House.Ear.Alike), "xy", "vw")
		paid := append(slices.Clone(b.Paid), 7, 8)
		says := append(slices.Clone(b.Says), to(7, 8), to(8, 9))
		keptLines, keptBowls, keptGroups, keptPaid, keptSays := slices.Clone(lines), slices.Clone(bowls), slices.Clone(groups), slices.Clone(paid), slices.Clone(says)
		b.House.Lines, b.House.Bowls, b.House.Ear.Alike = lines[:len(b.House.Lines)], bowls[:len(b.House.Bowls)], groups[:len(b.House.Ear.Alike)]
		b.Paid, b.Says = paid[:len(b.Paid)], says[:len(b.Says)]
		ask(b)
		if !slices.Equal(lines, keptLines) || !slices.Equal(bowls, keptBowls) || !slices.Equal(groups, keptGroups) || !slices.Equal(paid, keptPaid) || !slices.Equal(says, keptSays) {
			t.Fatalf("%v: an argument was changed", b)
		}
	}
}

// P9.9, R4: results are new memory, and nothing of an argument is kept.
func TestResultsAreNew(t *testing.T) {
	b, torn := book(), book(says(at(0), at(0)))
	asked, _ := town.Asked(b)
	share, _ := town.Share(b, 100)
	wrong, _ := town.Wrong(torn)
	if len(asked) != 2 || len(share) != 2 || len(wrong) != 2 {
		t.Fatalf("%v, %v, %v", asked, share, wrong)
	}
	asked[0], share[0], wrong[0] = 77, 88, 99
	if !slices.Equal(b.Paid, list(10, 10)) {
		t.Error("an argument was changed by a result")
	}
	b.Paid[0], b.Says[0], b.House.Lines[4], b.House.Bowls[1], torn.Says[0] = 9, at(9), line(1, 0, 1, "a"), at(7), at(2)
	again, e := town.Asked(book())
	wantList(t, "Asked", again, e, list(4, 0), api.OK)
	again, e = town.Share(book(), 100)
	wantList(t, "Share", again, e, list(67, 33), api.OK)
	again, e = town.Wrong(book(says(at(0), at(0))))
	wantList(t, "Wrong", again, e, list(0, 1), api.OK)
	if !slices.Equal(asked, list(77, 0)) || !slices.Equal(share, list(88, 33)) || !slices.Equal(wrong, list(99, 1)) {
		t.Error("a result was changed by a later call")
	}
}

// P2: the same arguments have the same result, whatever was asked before.
func TestSameAgain(t *testing.T) {
	r := rand.New(rand.NewSource(11))
	var books []api.TownBook
	var answers []string
	for range 100 {
		b := someBook(r, r.Intn(11))
		if r.Intn(8) == 0 {
			b.Rate = 101
		}
		books, answers = append(books, b), append(answers, ask(b))
	}
	for _, i := range slices.Concat(r.Perm(len(books)), r.Perm(len(books))) {
		if ask(books[i]) != answers[i] {
			t.Errorf("%v: another answer", books[i])
		}
	}
}

// P1: whatever is given, every function returns.
func TestAnyArguments(t *testing.T) {
	r := rand.New(rand.NewSource(12))
	valid := 0
	for range 3000 {
		b := garbled(r, someBook(r, r.Intn(11)))
		code := town.Check(b)
		if code == api.OK {
			valid++
			ask(b)
			continue
		}
		n := number(r)
		wantError(t, fmt.Sprintf("%v", b), b, n, number(r), api.ErrTown)
	}
	if valid < 100 || valid > 2900 {
		t.Errorf("%d of 3000 books are valid", valid)
	}
}

// number is any number, often one near to an end.
func number(r *rand.Rand) int {
	return []int{-1, 0, 1, 2, 5, 10, 11, 100, 101, 100001, -r.Int(), r.Int()}[r.Intn(12)]
}

// garbled is a book of which some part was changed to anything.
func garbled(r *rand.Rand, b api.TownBook) api.TownBook {
	for range 1 + r.Intn(2) {
		k, l := r.Intn(len(b.Says)), r.Intn(len(b.House.Lines)+1)
		switch r.Intn(9) {
		case 0:
			b.Rate = number(r)
		case 1:
			b.Paid[r.Intn(len(b.Paid))] = number(r)
		case 2:
			b.Says[k] = to(number(r), number(r))
		case 3:
			b.House.Towns = number(r)
		case 4:
			b.Paid = append(b.Paid, number(r))
		case 5:
			b.Says = append(b.Says, at(number(r)))
		case 6:
			b.House.Bowls[0] = to(number(r), number(r))
		case 7:
			if l < len(b.House.Lines) {
				b.House.Lines[l] = line(number(r), number(r), number(r), "peter")
			}
		case 8:
			if l < len(b.House.Lines) {
				b.House.Lines[l].Town = number(r)
			}
		}
	}
	return b
}
