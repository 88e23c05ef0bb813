package dog_test

import (
	"fmt"
	"math/rand"
	"slices"
	"testing"

	"clavendier/api"
	"clavendier/dog"
)

// inside reports whether a span lies in another one.
func inside(one, other api.Span) bool { return other.Low <= one.Low && one.High <= other.High }

// more is a book with more sniffs than it has.
func more(b api.DogBook, sniffs ...api.DogSniff) api.DogBook {
	return with(b, slices.Concat(b.Sniffs, sniffs)...)
}

// isTrue reports whether a book can be true.
func isTrue(t *testing.T, b api.DogBook) bool {
	t.Helper()
	is, e := dog.Right(b)
	if e != api.OK {
		t.Fatalf("%v: error %d", b, e)
	}
	return is
}

// tell is what all functions return of a book, but for Wrong.
func tell(b api.DogBook) string {
	right, e := dog.Right(b)
	text := fmt.Sprint(dog.Check(b), right, e)
	for n := -1; n <= 7; n++ {
		whose, e1 := dog.Whose(b, n)
		surely, perhaps, e2 := dog.Of(b, n)
		keep, e3 := dog.Keeps(b, n)
		text += fmt.Sprint("; ", len(whose), whose, e1, len(surely), surely, len(perhaps), perhaps, e2, keep, e3)
		for hound := range 3 {
			until, e := dog.Until(b, hound, n)
			text += fmt.Sprint(", ", until, e)
		}
		for _, day := range []int{-1, 10 * n, 500 + 5*n, 999} {
			knows, e1 := dog.Knows(b, n%3, n%2, day)
			take, e2 := dog.Take(b, n, day)
			ask, e3 := dog.Ask(b, n, day)
			text += fmt.Sprint(", ", knows, e1, take, e2, ask, e3)
		}
	}
	return text
}

// askAll asks everything of a book.
func askAll(b api.DogBook) string {
	wrong, e := dog.Wrong(b)
	return fmt.Sprint(tell(b), "; ", len(wrong), wrong, e)
}

// found is what is returned: a number, or that there is none, or the error of the book.
func found(n int, is bool, code api.Errno) (int, api.Errno) {
	switch {
	case code != api.OK:
		return 0, code
	case !is:
		return 0, api.ErrNone
	}
	return n, api.OK
}

// P5.1 to P5.7, R6: all functions do as the plainest calculation does.
func TestAsCalculatedPlainly(t *testing.T) {
	r := rand.New(rand.NewSource(1))
	trues, longest := 0, 0
	for range 600 {
		b := someBook(r, small)
		b.Sniffs = someSniffs(r, b, lived(r, b), 8, 6)
		every := allTruths(b)
		some := truths(b, every, b.Sniffs...)
		wrong, e := dog.Wrong(b)
		wantList(t, fmt.Sprintf("%v: Wrong", b), wrong, e, naiveWrong(b, every), api.OK)
		longest = max(longest, len(wrong))
		is, e := dog.Right(b)
		want(t, fmt.Sprintf("%v: Right", b), is, e, len(some) > 0, api.OK)
		if len(some) == 0 {
			wantError(t, fmt.Sprint(b), b, 0, 0, 0, 10, api.ErrDogFalse)
			continue
		}
		trues++
		trailsAsCalculatedPlainly(t, r, b, some)
		dogsAsCalculatedPlainly(t, r, b, some)
	}
	if trues < 300 || trues > 500 || longest < 3 {
		t.Errorf("%d of 600 books can be true, at most %d sniffs are wrong: too few of a kind", trues, longest)
	}
}

// trailsAsCalculatedPlainly compares what Whose, Of and Ask return.
func trailsAsCalculatedPlainly(t *testing.T, r *rand.Rand, b api.DogBook, some []truth) {
	t.Helper()
	for trail := range b.Trails {
		call := fmt.Sprintf("%v, %d: ", b, trail)
		list, e := dog.Whose(b, trail)
		wantList(t, call+"Whose", list, e, naiveWhose(some, trail), api.OK)
		for range 4 {
			day := someDay(r, b)
			best, is := naiveAsk(b, some, trail, day)
			must, code := found(best, is, api.OK)
			n, e := dog.Ask(b, trail, day)
			want(t, fmt.Sprint(call, "Ask on ", day), n, e, must, code)
		}
	}
	for person := range b.Persons + 1 {
		surely, perhaps := naiveOf(b, some, person)
		wantOf(t, fmt.Sprint(b), b, person, surely, perhaps, api.OK)
	}
}

// dogsAsCalculatedPlainly compares what Keeps, Knows, Until and Take return.
func dogsAsCalculatedPlainly(t *testing.T, r *rand.Rand, b api.DogBook, some []truth) {
	t.Helper()
	for hound := range b.Keeps {
		s, e := dog.Keeps(b, hound)
		want(t, fmt.Sprintf("%v: Keeps of %d", b, hound), s, e, naiveKeeps(some, hound), api.OK)
	}
	for range 6 {
		hound, person, day := r.Intn(len(b.Keeps)), r.Intn(b.Persons), someDay(r, b)
		if len(b.Meets) > 0 && r.Intn(2) == 0 {
			m := b.Meets[r.Intn(len(b.Meets))]
			hound, person, day = m.Dog, m.Person, min(999, m.Day+r.Intn(b.Keeps[m.Dog].High+2))
		}
		call := fmt.Sprintf("%v, %d, %d, %d: ", b, hound, person, day)
		n, e := dog.Knows(b, hound, person, day)
		want(t, call+"Knows", n, e, naiveKnows(b, some, hound, person, day), api.OK)
		last, is := naiveUntil(b, some, hound, person)
		must, code := found(last, is, api.OK)
		n, e = dog.Until(b, hound, person)
		want(t, call+"Until", n, e, must, code)
		first, is := naiveTake(b, some, person, day)
		must, code = found(first, is, api.OK)
		n, e = dog.Take(b, person, day)
		want(t, call+"Take", n, e, must, code)
	}
}

// P5.1 to P5.7: the same of books with many persons and trails.
func TestWideBooksAsCalculatedPlainly(t *testing.T) {
	r := rand.New(rand.NewSource(2))
	trues := 0
	for range 30 {
		b := someBook(r, size{6, 4, 2, 1})
		b.Sniffs = someSniffs(r, b, lived(r, b), 8, 12)
		every := allTruths(b)
		some := truths(b, every, b.Sniffs...)
		wrong, e := dog.Wrong(b)
		wantList(t, fmt.Sprintf("%v: Wrong", b), wrong, e, naiveWrong(b, every), api.OK)
		if len(some) > 0 {
			trues++
			trailsAsCalculatedPlainly(t, r, b, some)
			dogsAsCalculatedPlainly(t, r, b, some)
		}
	}
	if trues < 15 {
		t.Errorf("%d of 30 books can be true: too few", trues)
	}
}

// P5.2 to P5.6: the same of books in which what is so of one dog, or trail, depends on the other one.
func TestDenseBooksAsCalculatedPlainly(t *testing.T) {
	r := rand.New(rand.NewSource(11))
	low, high := 0, 0
	for range 400 {
		b := denseBook(r)
		some := truths(b, allTruths(b), b.Sniffs...)
		trailsAsCalculatedPlainly(t, r, b, some)
		dogsAsCalculatedPlainly(t, r, b, some)
		s := naiveKeeps(some, 1)
		if some[0].keeps[1] > s.Low {
			low++
		}
		if some[len(some)-1].keeps[1] < s.High {
			high++
		}
	}
	if low < 10 || high < 10 {
		t.Errorf("of %d and %d of 400 books an end of the second dog is in a truth in between: too few", low, high)
	}
}

// P5.9: whatever is true, and whatever dogs rightly bark at, it is told as possible, and no sniff must be wrong.
func TestWhoseTheTrailIs(t *testing.T) {
	r := rand.New(rand.NewSource(3))
	barked, single := 0, 0
	for range 400 {
		b := someBook(r, whole)
		x := lived(r, b)
		b.Sniffs = someSniffs(r, b, x, 8, 1<<30)
		for _, s := range b.Sniffs {
			if s.Barked {
				barked++
			}
		}
		call := fmt.Sprintf("%v, %v: ", b, x)
		is, e := dog.Right(b)
		want(t, call+"Right", is, e, true, api.OK)
		wrong, e := dog.Wrong(b)
		wantList(t, call+"Wrong", wrong, e, nil, api.OK)
		for hound, keep := range x.keeps {
			if s, e := dog.Keeps(b, hound); e != api.OK || !inside(at(keep), s) {
				t.Errorf("%sKeeps of %d: %v, error %d", call, hound, s, e)
			}
		}
		for trail, person := range x.whose {
			list, e := dog.Whose(b, trail)
			surely, perhaps, f := dog.Of(b, person)
			if e != api.OK || f != api.OK || !slices.Contains(list, person) || !slices.Contains(perhaps, trail) {
				t.Errorf("%sWhose of %d: %v, error %d; Of %d: %v, error %d", call, trail, list, e, person, perhaps, f)
			}
			if slices.Contains(surely, trail) != (len(list) == 1) {
				t.Errorf("%sWhose of %d: %v; Of %d: %v", call, trail, list, person, surely)
			}
			if len(list) == 1 {
				single++
			}
		}
	}
	if barked < 100 || single < 50 {
		t.Errorf("%d barks, %d trails that are one's: too few", barked, single)
	}
}

// P5.10: what a dog is told to know surely it truly knows; of somebody whom it is told not to know it does not.
func TestWhatDogsTrulyKnow(t *testing.T) {
	r := rand.New(rand.NewSource(4))
	told := map[int]int{}
	taken := 0
	for range 400 {
		b := someBook(r, whole)
		x := lived(r, b)
		b.Sniffs = someSniffs(r, b, x, 8, 1<<30)
		for _, m := range b.Meets {
			day := min(999, m.Day+r.Intn(b.Keeps[m.Dog].High+3))
			truly := knowsThen(b, x.keeps[m.Dog], m.Dog, m.Person, day)
			call := fmt.Sprintf("%v, %v: %v on %d: ", b, x, m, day)
			n, e := dog.Knows(b, m.Dog, m.Person, day)
			told[n]++
			if e != api.OK || n == api.DogYes && !truly || n == api.DogNo && truly {
				t.Errorf("%sKnows: %d, error %d", call, n, e)
			}
			last, e := dog.Until(b, m.Dog, m.Person)
			if e != api.OK || !knowsThen(b, x.keeps[m.Dog], m.Dog, m.Person, last) {
				t.Errorf("%sUntil: %d, error %d", call, last, e)
			}
			if hound, e := dog.Take(b, m.Person, day); e == api.OK {
				taken++
				if !knowsThen(b, x.keeps[hound], hound, m.Person, day) {
					t.Errorf("%sTake: %d", call, hound)
				}
			} else if e != api.ErrNone || n == api.DogYes {
				t.Errorf("%sTake: error %d, but Knows: %d", call, e, n)
			}
		}
	}
	if told[api.DogNo] < 50 || told[api.DogMay] < 50 || told[api.DogYes] < 50 || taken < 50 {
		t.Errorf("%v were told, %d dogs taken: too few of a kind", told, taken)
	}
}

// P5.11: one sniff more leaves no more persons for any trail, and no other number of days.
func TestOneSniffMore(t *testing.T) {
	r := rand.New(rand.NewSource(5))
	fewer, narrower, none := 0, 0, 0
	for range 500 {
		b := someBook(r, whole)
		if b.Trails == 0 {
			continue
		}
		x := lived(r, b)
		b.Sniffs = someSniffs(r, b, x, 7, 1<<30)
		s := rightSniff(r, b, x)
		if r.Intn(3) == 0 {
			s.Barked = !s.Barked
		}
		next := more(b, s)
		if !isTrue(t, next) {
			none++
		}
		for trail := range b.Trails {
			one, _ := dog.Whose(b, trail)
			two, _ := dog.Whose(next, trail)
			if !isSubset(two, one) {
				t.Errorf("%v: the trail %d is of %v; with one sniff more of %v", next, trail, one, two)
			}
			fewer += len(one) - len(two)
		}
		for hound := range b.Keeps {
			one, _ := dog.Keeps(b, hound)
			two, e := dog.Keeps(next, hound)
			if e == api.OK && !inside(two, one) {
				t.Errorf("%v: the dog %d knows a smell for %v; with one sniff more for %v", next, hound, one, two)
			}
			if e == api.OK && one != two {
				narrower++
			}
		}
	}
	if fewer < 100 || narrower < 20 || none < 20 {
		t.Errorf("%d persons fewer, %d spans narrower, %d books that are false: too few", fewer, narrower, none)
	}
}

// shuffled is a list in another order.
func shuffled[T any](r *rand.Rand, list []T) []T {
	var other []T
	for _, i := range r.Perm(len(list)) {
		other = append(other, list[i])
	}
	return other
}

// P5.11: the order of meetings and sniffs makes no difference.
func TestOrderMakesNoDifference(t *testing.T) {
	r := rand.New(rand.NewSource(6))
	for range 150 {
		b := someBook(r, whole)
		b.Sniffs = someSniffs(r, b, lived(r, b), 8, 8)
		other := b
		other.Meets = shuffled(r, b.Meets)
		if one, two := askAll(b), askAll(other); one != two {
			t.Errorf("%v: %s; with other meetings %s", b, one, two)
		}
		other.Sniffs = shuffled(r, b.Sniffs)
		if one, two := tell(b), tell(other); one != two {
			t.Errorf("%v: %s; in another order %s", b, one, two)
		}
		one, _ := dog.Wrong(b)
		two, _ := dog.Wrong(other)
		if len(one) != len(two) {
			t.Errorf("%v: %v are wrong; in another order %v", b, one, two)
		}
	}
}

// without is some sniffs without others.
func without(sniffs []api.DogSniff, out []int) []api.DogSniff {
	var rest []api.DogSniff
	for i, s := range sniffs {
		if !slices.Contains(out, i) {
			rest = append(rest, s)
		}
	}
	return rest
}

// P5.12: without the sniffs that are told the book can be true, without fewer it cannot.
func TestSniffsThatMustBeWrong(t *testing.T) {
	r := rand.New(rand.NewSource(7))
	longest := 0
	for range 150 {
		b := someBook(r, whole)
		b.Sniffs = someSniffs(r, b, lived(r, b), 8, 3)
		wrong, e := dog.Wrong(b)
		if e != api.OK || !slices.IsSorted(wrong) || len(distinct(wrong)) != len(wrong) {
			t.Errorf("%v: Wrong: %v, error %d", b, wrong, e)
		}
		longest = max(longest, len(wrong))
		for _, out := range subsets(len(b.Sniffs)) {
			can := isTrue(t, with(b, without(b.Sniffs, out)...))
			if slices.Equal(out, wrong) {
				if !can {
					t.Errorf("%v: %v are told, but without them it is false", b, wrong)
				}
				break
			}
			if can {
				t.Errorf("%v: %v are told, but %v come before", b, wrong, out)
			}
		}
	}
	if longest < 3 {
		t.Errorf("no more than %d sniffs were wrong in any book", longest)
	}
}

// left returns how many are left whose a trail can be, if a dog barks, and if it does not.
func left(b api.DogBook, hound, trail, day int) (barked, not int) {
	one, _ := dog.Whose(more(b, bark(hound, trail, day)), trail)
	other, _ := dog.Whose(more(b, silent(hound, trail, day)), trail)
	return len(one), len(other)
}

// P5.13: whatever the dog does that is asked, no more persons are left than by any other dog at the worst, and fewer than by those before it.
func TestAskedDogs(t *testing.T) {
	r := rand.New(rand.NewSource(8))
	asked := map[int]int{}
	for range 600 {
		b := someBook(r, whole)
		if b.Trails == 0 {
			continue
		}
		b.Sniffs = someSniffs(r, b, lived(r, b), 7, 1<<30)
		trail, day := r.Intn(b.Trails), someDay(r, b)
		hound, e := dog.Ask(b, trail, day)
		if e == api.ErrNone {
			if list, _ := dog.Whose(b, trail); len(list) != 1 {
				t.Errorf("%v: Ask of %d: error %d, but it can be of %v", b, trail, e, list)
			}
			continue
		}
		asked[hound]++
		best := max(left(b, hound, trail, day))
		for n := range b.Keeps {
			if most := max(left(b, n, trail, day)); e != api.OK || most < best || n < hound && most == best {
				t.Errorf("%v: Ask of %d on %d: %d, error %d, with %d left; by %d: %d", b, trail, day, hound, e, best, n, most)
			}
		}
	}
	if asked[0] < 50 || asked[1] < 20 || asked[2] < 10 {
		t.Errorf("too few dogs of a kind were asked: %v", asked)
	}
}

// P5.8, R4: arguments are not changed, not even behind their ends.
func TestArgumentsAreRead(t *testing.T) {
	r := rand.New(rand.NewSource(9))
	for range 60 {
		b := someBook(r, whole)
		b.Sniffs = someSniffs(r, b, lived(r, b), 7, 4)
		keeps := append(slices.Clone(b.Keeps), at(1), at(2))
		meets := append(slices.Clone(b.Meets), meet(0, 0, 3), meet(0, 0, 4))
		sniffs := append(slices.Clone(b.Sniffs), bark(0, 0, 5), silent(0, 0, 6))
		b.Keeps, b.Meets, b.Sniffs = keeps[:len(b.Keeps)], meets[:len(b.Meets)], sniffs[:len(b.Sniffs)]
		before := fmt.Sprint(keeps, meets, sniffs)
		askAll(b)
		if after := fmt.Sprint(keeps, meets, sniffs); after != before {
			t.Fatalf("%s: an argument was changed to %s", before, after)
		}
	}
}

// P5.8, R4: results are new memory, and nothing of an argument is kept.
func TestResultsAreNew(t *testing.T) {
	b, not, sure := free(), falseBook(), pair(bark(0, 0, 12), bark(0, 1, 12))
	whose, _ := dog.Whose(b, 0)
	wrong, _ := dog.Wrong(not)
	surely, perhaps, _ := dog.Of(sure, 0)
	if len(whose) != 4 || len(wrong) != 1 || len(surely) != 2 || len(perhaps) != 2 {
		t.Fatalf("%v, %v, %v, %v", whose, wrong, surely, perhaps)
	}
	whose[0], wrong[0], surely[0], perhaps[0] = 9, 8, 7, 6
	b.Keeps[0], b.Meets[0], not.Sniffs[0], sure.Sniffs[0] = at(0), meet(0, 0, 0), silent(0, 0, 0), silent(0, 0, 12)
	again, e := dog.Whose(free(), 0)
	wantList(t, "Whose", again, e, []int{0, 1, 2, 3}, api.OK)
	wrongAgain, e := dog.Wrong(falseBook())
	wantList(t, "Wrong", wrongAgain, e, []int{1}, api.OK)
	wantOf(t, "again", pair(bark(0, 0, 12), bark(0, 1, 12)), 0, []int{0, 1}, []int{0, 1}, api.OK)
	if !slices.Equal(whose, []int{9, 1, 2, 3}) || wrong[0] != 8 || !slices.Equal(surely, []int{7, 1}) || !slices.Equal(perhaps, []int{6, 1}) {
		t.Error("a result was changed by a later call, or by another result")
	}
}

// P2: the same arguments have the same result, whatever was asked before.
func TestSameAgain(t *testing.T) {
	r := rand.New(rand.NewSource(10))
	var books []api.DogBook
	var told []string
	for range 60 {
		b := someBook(r, whole)
		b.Sniffs = someSniffs(r, b, lived(r, b), 9, 4)
		books, told = append(books, b), append(told, askAll(b))
	}
	for _, i := range r.Perm(len(books)) {
		if askAll(books[i]) != told[i] {
			t.Errorf("%v: another answer", books[i])
		}
	}
}
