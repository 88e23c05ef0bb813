package dog_test

import (
	"fmt"
	"math"
	"slices"
	"testing"

	"clavendier/api"
	"clavendier/dog"
)

func to(low, high int) api.Span { return api.Span{Low: low, High: high} }

func at(n int) api.Span { return to(n, n) }

func meet(dog, person, day int) api.DogMeet { return api.DogMeet{Dog: dog, Person: person, Day: day} }

// bark is a sniff of a dog that barked.
func bark(dog, trail, day int) api.DogSniff {
	return api.DogSniff{Dog: dog, Trail: trail, Day: day, Barked: true}
}

// silent is a sniff of a dog that did not bark.
func silent(dog, trail, day int) api.DogSniff {
	return api.DogSniff{Dog: dog, Trail: trail, Day: day}
}

// free is the book of the chapter, with these sniffs alone.
func free(sniffs ...api.DogSniff) api.DogBook {
	return api.DogBook{
		Persons: 3, Trails: 1,
		Keeps:  []api.Span{to(5, 8), at(20)},
		Meets:  []api.DogMeet{meet(0, 0, 10), meet(0, 1, 12), meet(1, 1, 3), meet(1, 2, 5)},
		Sniffs: sniffs,
	}
}

// book is the book of the chapter, with more sniffs.
func book(more ...api.DogSniff) api.DogBook {
	return free(slices.Concat([]api.DogSniff{bark(0, 0, 17), silent(1, 0, 17)}, more)...)
}

// falseBook is the book of the chapter with sniffs that cannot all be right.
func falseBook() api.DogBook { return book(bark(1, 0, 17)) }

// changed is the book of the chapter, changed.
func changed(change func(b *api.DogBook)) api.DogBook {
	b := book()
	change(&b)
	return b
}

// with is a book with other sniffs.
func with(b api.DogBook, sniffs ...api.DogSniff) api.DogBook {
	b.Sniffs = sniffs
	return b
}

// alone is a book of one dog, with its days, and of one person whom it met on these days.
func alone(keep api.Span, days ...int) api.DogBook {
	b := api.DogBook{Persons: 1, Trails: 1, Keeps: []api.Span{keep}}
	for _, day := range days {
		b.Meets = append(b.Meets, meet(0, 0, day))
	}
	return b
}

// pair is a book of one dog that met two persons, and of two trails.
func pair(sniffs ...api.DogSniff) api.DogBook {
	return api.DogBook{
		Persons: 2, Trails: 2,
		Keeps:  []api.Span{to(3, 9)},
		Meets:  []api.DogMeet{meet(0, 0, 10), meet(0, 1, 14)},
		Sniffs: sniffs,
	}
}

// widest is the widest book that is valid.
func widest() api.DogBook {
	b := api.DogBook{Persons: 6, Trails: 4, Keeps: []api.Span{to(52, 60), to(20, 28), to(0, 8)}}
	for n := range 12 {
		b.Meets = append(b.Meets, meet(n%3, n%6, 20*n))
	}
	for n := range 8 {
		b.Sniffs = append(b.Sniffs, bark(n%3, n%4, 999))
	}
	return b
}

// number is a number of a book: where it is, and what it can be.
type number struct {
	of          func(b *api.DogBook) *int
	least, most int
}

// numbers are all kinds of numbers of the book of the chapter, but for those of spans.
func numbers() map[string]number {
	return map[string]number{
		"Meet.Dog":    {func(b *api.DogBook) *int { return &b.Meets[2].Dog }, 0, 1},
		"Meet.Person": {func(b *api.DogBook) *int { return &b.Meets[3].Person }, 0, 2},
		"Meet.Day":    {func(b *api.DogBook) *int { return &b.Meets[0].Day }, 0, 999},
		"Sniff.Dog":   {func(b *api.DogBook) *int { return &b.Sniffs[1].Dog }, 0, 1},
		"Sniff.Trail": {func(b *api.DogBook) *int { return &b.Sniffs[0].Trail }, 0, 0},
		"Sniff.Day":   {func(b *api.DogBook) *int { return &b.Sniffs[1].Day }, 0, 999},
		"Persons":     {func(b *api.DogBook) *int { return &b.Persons }, 3, 6},
		"Trails":      {func(b *api.DogBook) *int { return &b.Trails }, 1, 4},
	}
}

// wrongBooks are books that are not valid.
func wrongBooks() map[string]api.DogBook {
	bare := func(persons, trails int) api.DogBook {
		return api.DogBook{Persons: persons, Trails: trails, Keeps: []api.Span{to(5, 8)}}
	}
	list := map[string]api.DogBook{
		"nothing":                   {},
		"no persons":                bare(0, 1),
		"fewer than no persons":     bare(-1, 1),
		"fewer than no trails":      bare(1, -1),
		"seven persons":             bare(7, 1),
		"five trails":               bare(1, 5),
		"no dogs":                   {Persons: 1, Trails: 1},
		"no dogs, but a list":       {Persons: 1, Trails: 1, Keeps: []api.Span{}},
		"four dogs":                 changed(func(b *api.DogBook) { b.Keeps = slices.Repeat([]api.Span{to(5, 8)}, 4) }),
		"far too many dogs":         changed(func(b *api.DogBook) { b.Keeps = make([]api.Span, 1<<16) }),
		"thirteen meetings":         changed(func(b *api.DogBook) { b.Meets = slices.Repeat(b.Meets[:1], 13) }),
		"far too many meetings":     changed(func(b *api.DogBook) { b.Meets = make([]api.DogMeet, 1<<16) }),
		"nine sniffs":               free(slices.Repeat([]api.DogSniff{bark(0, 0, 17)}, 9)...),
		"far too many sniffs":       free(make([]api.DogSniff, 1<<16)...),
		"sniffs at no trail":        changed(func(b *api.DogBook) { b.Trails = 0 }),
		"a wrong sniff, and false":  book(bark(1, 0, 17), silent(0, 0, 1000)),
		"a meeting with a stranger": changed(func(b *api.DogBook) { b.Meets[1].Person = b.Persons }),
	}
	for what, x := range numbers() {
		for _, n := range []int{x.least - 1, x.most + 1, math.MinInt, math.MaxInt} {
			list[fmt.Sprint(what, " ", n)] = changed(func(b *api.DogBook) { *x.of(b) = n })
		}
	}
	for _, s := range []api.Span{to(-1, 0), to(-1, -1), to(60, 61), to(61, 61), to(5, 4), to(5, 14), to(51, 60), to(math.MinInt, math.MaxInt), to(math.MaxInt, math.MinInt), at(math.MinInt), at(math.MaxInt)} {
		for n := range 2 {
			list[fmt.Sprint("Keeps ", n, s)] = changed(func(b *api.DogBook) { b.Keeps[n] = s })
		}
	}
	return list
}

// want reports what a call returned, if it is not what was to be.
func want[T comparable](t *testing.T, call string, got T, e api.Errno, must T, code api.Errno) {
	t.Helper()
	if got != must || e != code {
		t.Errorf("%s: %v, error %d; not %v, error %d", call, got, e, must, code)
	}
}

// wantList does the same with lists.
func wantList[T comparable](t *testing.T, call string, got []T, e api.Errno, must []T, code api.Errno) {
	t.Helper()
	if !slices.Equal(got, must) || e != code {
		t.Errorf("%s: %v, error %d; not %v, error %d", call, got, e, must, code)
	}
}

// wantOf does the same with what Of returns.
func wantOf(t *testing.T, what string, b api.DogBook, person int, surely, perhaps []int, code api.Errno) {
	t.Helper()
	one, other, e := dog.Of(b, person)
	if !slices.Equal(one, surely) || !slices.Equal(other, perhaps) || e != code {
		t.Errorf("%s: Of %d: %v, %v, error %d; not %v, %v, error %d", what, person, one, other, e, surely, perhaps, code)
	}
}

// wantError asks all functions that can return an error of the book, with these numbers of a dog, a person, a trail and a day.
func wantError(t *testing.T, what string, b api.DogBook, hound, person, trail, day int, e api.Errno) {
	t.Helper()
	what = fmt.Sprintf("%s, of the dog %d, the person %d, the trail %d on %d: ", what, hound, person, trail, day)
	list, got := dog.Whose(b, trail)
	wantList(t, what+"Whose", list, got, nil, e)
	wantOf(t, what, b, person, nil, nil, e)
	span, got := dog.Keeps(b, hound)
	want(t, what+"Keeps", span, got, api.Span{}, e)
	n, got := dog.Knows(b, hound, person, day)
	want(t, what+"Knows", n, got, 0, e)
	n, got = dog.Until(b, hound, person)
	want(t, what+"Until", n, got, 0, e)
	n, got = dog.Take(b, person, day)
	want(t, what+"Take", n, got, 0, e)
	n, got = dog.Ask(b, trail, day)
	want(t, what+"Ask", n, got, 0, e)
}

// P5.1, R7: what is valid, up to its ends.
func TestCheckValid(t *testing.T) {
	good := map[string]api.DogBook{
		"the book of the chapter":    book(),
		"one that is false":          falseBook(),
		"the widest one":             widest(),
		"one person, and no trail":   {Persons: 1, Keeps: []api.Span{at(0)}},
		"lists without anything":     {Persons: 1, Keeps: []api.Span{at(0)}, Meets: []api.DogMeet{}, Sniffs: []api.DogSniff{}},
		"days that are far apart":    changed(func(b *api.DogBook) { b.Meets[0].Day, b.Meets[1].Day = 999, 0 }),
		"a meeting that is twice":    changed(func(b *api.DogBook) { b.Meets = append(b.Meets, b.Meets[0]) }),
		"sniffs in any order":        free(bark(0, 0, 999), silent(1, 0, 0), bark(0, 0, 500)),
		"twelve of the same meeting": changed(func(b *api.DogBook) { b.Meets = slices.Repeat(b.Meets[:1], 12) }),
	}
	for what, x := range numbers() {
		for _, n := range []int{x.least, x.most} {
			good[fmt.Sprint(what, " ", n)] = changed(func(b *api.DogBook) { *x.of(b) = n })
		}
	}
	for _, s := range []api.Span{at(0), at(60), to(0, 8), to(52, 60), to(7, 15)} {
		good[fmt.Sprint("Keeps ", s)] = changed(func(b *api.DogBook) { b.Keeps[1] = s })
	}
	for what, b := range good {
		if e := dog.Check(b); e != api.OK {
			t.Errorf("%s: error %d", what, e)
		}
	}
}

// P5.1 to P5.7, P1, R1, R2: a book that is not valid is the first error of all functions, with nothing else, whatever is asked.
func TestWrongBook(t *testing.T) {
	const e = api.ErrDog
	for what, b := range wrongBooks() {
		if got := dog.Check(b); got != e {
			t.Errorf("Check, %s: error %d", what, got)
		}
		is, got := dog.Right(b)
		want(t, "Right, "+what, is, got, false, e)
		list, got := dog.Wrong(b)
		wantList(t, "Wrong, "+what, list, got, nil, e)
		for _, n := range []int{0, 1, -1, 3, 6, 7, math.MinInt, math.MaxInt} {
			wantError(t, what, b, n, n, n, n, e)
		}
	}
}

// P5.2 to P5.6, P1, R1, R2: a wrong question is the next error, also where the book is false, or where there is nothing of the kind.
func TestWrongQuestion(t *testing.T) {
	const e = api.ErrDogAsk
	for what, b := range map[string]api.DogBook{"true": book(), "false": falseBook(), "nobody was met": {Persons: 3, Trails: 1, Keeps: []api.Span{at(1), at(2)}}} {
		for _, n := range []int{-1, 4, 6, 1000, math.MinInt, math.MaxInt} {
			wantError(t, what, b, n, n, n, 5, e)
		}
		for _, hound := range []int{-1, 2, 3, math.MinInt, math.MaxInt} {
			for person := range 3 {
				n, got := dog.Knows(b, hound, person, 12)
				want(t, fmt.Sprintf("%s: Knows of %d", what, hound), n, got, 0, e)
				n, got = dog.Until(b, hound, person)
				want(t, fmt.Sprintf("%s: Until of %d", what, hound), n, got, 0, e)
			}
		}
		for hound := range 2 {
			for _, person := range []int{-1, 3, 6, math.MinInt, math.MaxInt} {
				n, got := dog.Knows(b, hound, person, 12)
				want(t, fmt.Sprintf("%s: Knows %d", what, person), n, got, 0, e)
				n, got = dog.Until(b, hound, person)
				want(t, fmt.Sprintf("%s: Until for %d", what, person), n, got, 0, e)
				n, got = dog.Take(b, person, 12)
				want(t, fmt.Sprintf("%s: Take for %d", what, person), n, got, 0, e)
			}
		}
		for _, day := range []int{-1, 1000, math.MinInt, math.MaxInt} {
			n, got := dog.Knows(b, 0, 0, day)
			want(t, fmt.Sprintf("%s: Knows on %d", what, day), n, got, 0, e)
			n, got = dog.Take(b, 0, day)
			want(t, fmt.Sprintf("%s: Take on %d", what, day), n, got, 0, e)
			n, got = dog.Ask(b, 0, day)
			want(t, fmt.Sprintf("%s: Ask on %d", what, day), n, got, 0, e)
		}
		list, got := dog.Whose(b, 1)
		wantList(t, what+": Whose of 1", list, got, nil, e)
		n, got := dog.Ask(b, 1, 5)
		want(t, what+": Ask of 1", n, got, 0, e)
	}
	list, got := dog.Whose(api.DogBook{Persons: 1, Keeps: []api.Span{at(0)}}, 0)
	wantList(t, "Whose where no trail is", list, got, nil, e)
}

// P5.1 to P5.6, R1, R2: of a book that cannot be true nothing is told but that.
func TestFalseBook(t *testing.T) {
	for what, b := range map[string]api.DogBook{
		"of the chapter":                falseBook(),
		"a bark before all meetings":    free(bark(0, 0, 9)),
		"a bark the day after the last": free(bark(0, 0, 21)),
		"a bark of who met nobody":      with(alone(to(0, 8)), bark(0, 0, 500)),
		"a smell that fades too soon":   with(alone(to(5, 8), 10), bark(0, 0, 19)),
		"known, and not, on one day":    with(alone(to(5, 8), 10), bark(0, 0, 17), silent(0, 0, 17)),
		"known again without a meeting": with(alone(to(5, 8), 10), bark(0, 0, 17), silent(0, 0, 16)),
		"two trails, of which one":      pair(bark(0, 0, 12), silent(0, 1, 14), bark(0, 1, 9)),
		// the trail 0 needs more days than the trail 1 leaves
		"two trails, and one dog": pair(bark(0, 0, 23), bark(0, 1, 13), silent(0, 1, 18)),
	} {
		is, e := dog.Right(b)
		want(t, what+": Right", is, e, false, api.OK)
		if _, e := dog.Wrong(b); e != api.OK {
			t.Errorf("%s: Wrong: error %d", what, e)
		}
		for day := range 30 {
			wantError(t, what, b, 0, 0, 0, day, api.ErrDogFalse)
		}
		wantError(t, what, b, len(b.Keeps)-1, b.Persons-1, b.Trails-1, 999, api.ErrDogFalse)
		wantOf(t, what, b, b.Persons, nil, nil, api.ErrDogFalse)
	}
	// it never met this person, and nothing surely knows this one, and yet
	n, e := dog.Until(falseBook(), 1, 0)
	want(t, "Until", n, e, 0, api.ErrDogFalse)
	n, e = dog.Take(falseBook(), 0, 9)
	want(t, "Take", n, e, 0, api.ErrDogFalse)
}

// The examples of the chapter.
func TestExamples(t *testing.T) {
	whose := func(b api.DogBook, must ...int) {
		t.Helper()
		list, e := dog.Whose(b, 0)
		wantList(t, "Whose of 0", list, e, must, api.OK)
	}
	whose(book(), 0)
	whose(free(bark(0, 0, 17)), 0, 1)
	whose(free(), 0, 1, 2, 3)
	wantOf(t, "the book", book(), 0, []int{0}, []int{0}, api.OK)
	wantOf(t, "the book", book(), 1, nil, nil, api.OK)
	wantOf(t, "no sniffs", free(), 3, nil, []int{0}, api.OK)
	keeps := func(b api.DogBook, hound int, must api.Span) {
		t.Helper()
		s, e := dog.Keeps(b, hound)
		want(t, fmt.Sprint("Keeps of ", hound), s, e, must, api.OK)
	}
	keeps(book(), 0, to(7, 8))
	keeps(book(), 1, at(20))
	keeps(free(bark(0, 0, 17)), 0, to(5, 8))
	for day, must := range map[int]int{17: api.DogYes, 18: api.DogMay, 19: api.DogNo, 9: api.DogNo} {
		n, e := dog.Knows(book(), 0, 0, day)
		want(t, fmt.Sprint("Knows on ", day), n, e, must, api.OK)
	}
	until := func(hound, person, must int, code api.Errno) {
		t.Helper()
		n, e := dog.Until(book(), hound, person)
		want(t, fmt.Sprint("Until of ", hound, ", ", person), n, e, must, code)
	}
	until(0, 0, 17, api.OK)
	until(0, 1, 19, api.OK)
	until(1, 0, 0, api.ErrNone)
	take := func(person, day, must int, code api.Errno) {
		t.Helper()
		n, e := dog.Take(book(), person, day)
		want(t, fmt.Sprint("Take for ", person, " on ", day), n, e, must, code)
	}
	take(1, 20, 1, api.OK)
	take(0, 17, 0, api.OK)
	take(0, 18, 0, api.ErrNone)
	n, e := dog.Ask(free(bark(0, 0, 17)), 0, 18)
	want(t, "Ask of 0 on 18, without the sniff 1", n, e, 1, api.OK)
	n, e = dog.Ask(book(), 0, 18)
	want(t, "Ask of 0 on 18", n, e, 0, api.ErrNone)
	list, e := dog.Wrong(book())
	wantList(t, "Wrong", list, e, nil, api.OK)
	list, e = dog.Wrong(falseBook())
	wantList(t, "Wrong with a bark more", list, e, []int{1}, api.OK)
}

// P5.2, P5.3: whose the trails can be, and for how many days the first dog knows a smell.
func TestTrails(t *testing.T) {
	for what, x := range map[string]struct {
		b     api.DogBook
		whose [][]int
		keep  api.Span
	}{
		"on the day of the meeting":      {with(alone(at(0), 7), bark(0, 0, 7)), [][]int{{0}}, at(0)},
		"silence on that day":            {with(alone(at(0), 7), silent(0, 0, 7)), [][]int{{1}}, at(0)},
		"silence on the day before":      {with(alone(at(0), 7), silent(0, 0, 6)), [][]int{{0, 1}}, at(0)},
		"silence on the day after":       {with(alone(at(0), 7), silent(0, 0, 8)), [][]int{{0, 1}}, at(0)},
		"the last day that is possible":  {with(alone(to(52, 60), 7), bark(0, 0, 67)), [][]int{{0}}, at(60)},
		"the first of them":              {with(alone(to(52, 60), 7), bark(0, 0, 59)), [][]int{{0}}, to(52, 60)},
		"it is too late to learn more":   {with(alone(to(52, 60), 7), silent(0, 0, 68)), [][]int{{0, 1}}, to(52, 60)},
		"silence, by whichever reason":   {with(alone(to(52, 60), 7), silent(0, 0, 65)), [][]int{{0, 1}}, to(52, 60)},
		"silence after a bark":           {with(alone(to(52, 60), 7), silent(0, 0, 65), bark(0, 0, 64)), [][]int{{0}}, at(57)},
		"met again in between":           {with(alone(to(5, 8), 10, 20), bark(0, 0, 18), silent(0, 0, 19), bark(0, 0, 20)), [][]int{{0}}, at(8)},
		"met again, then met no more":    {with(alone(to(5, 8), 20, 10), bark(0, 0, 15), silent(0, 0, 26)), [][]int{{0}}, at(5)},
		"met often, the last one counts": {with(alone(to(5, 8), 12, 10, 11), silent(0, 0, 18), bark(0, 0, 17)), [][]int{{0}}, at(5)},
		"two, without sniffs":            {pair(), [][]int{{0, 1, 2}, {0, 1, 2}}, to(3, 9)},
		"two of the same":                {pair(bark(0, 0, 12), bark(0, 1, 12)), [][]int{{0}, {0}}, to(3, 9)},
		"what is known of the dog":       {pair(bark(0, 0, 23)), [][]int{{1}, {0, 1, 2}}, at(9)},
		"one trail tells of the other":   {pair(bark(0, 0, 19), bark(0, 1, 12), silent(0, 1, 17)), [][]int{{1}, {0}}, to(5, 6)},
		"either of both fades":           {pair(bark(0, 0, 15), silent(0, 0, 18)), [][]int{{0, 1}, {0, 1, 2}}, to(3, 7)},
		"on the first and the last day":  {with(alone(at(0), 0, 999), bark(0, 0, 0), silent(0, 0, 998), bark(0, 0, 999)), [][]int{{0}}, at(0)},
	} {
		for trail, must := range x.whose {
			list, e := dog.Whose(x.b, trail)
			wantList(t, fmt.Sprintf("%s: Whose of %d", what, trail), list, e, must, api.OK)
		}
		s, e := dog.Keeps(x.b, 0)
		want(t, what+": Keeps", s, e, x.keep, api.OK)
		is, e := dog.Right(x.b)
		want(t, what+": Right", is, e, true, api.OK)
	}
}

// P5.3: two dogs tell of each other by the trails.
func TestKeepsOfTwo(t *testing.T) {
	b := api.DogBook{
		Persons: 2, Trails: 1,
		Keeps: []api.Span{to(2, 6), to(2, 6)},
		Meets: []api.DogMeet{meet(0, 0, 10), meet(1, 0, 10), meet(1, 1, 11)},
	}
	b.Sniffs = []api.DogSniff{bark(0, 0, 12), silent(1, 0, 14)}
	for hound, must := range []api.Span{to(2, 6), to(2, 3)} {
		s, e := dog.Keeps(b, hound)
		want(t, fmt.Sprint("Keeps of ", hound), s, e, must, api.OK)
	}
	b.Sniffs = []api.DogSniff{bark(1, 0, 15), silent(0, 0, 12)}
	for hound, must := range []api.Span{to(2, 6), to(4, 6)} {
		s, e := dog.Keeps(b, hound)
		want(t, fmt.Sprint("Keeps of ", hound), s, e, must, api.OK)
	}
	list, e := dog.Whose(b, 0)
	wantList(t, "Whose", list, e, []int{1}, api.OK)
}

// P5.3, P5.4: where one dog must know a smell for longer the shorter the other one does, each end is in another truth.
func TestKeepsOfEither(t *testing.T) {
	b := api.DogBook{
		Persons: 2, Trails: 1,
		Keeps: []api.Span{to(0, 8), to(0, 8)},
		Meets: []api.DogMeet{meet(0, 0, 10), meet(0, 1, 6), meet(1, 0, 6), meet(1, 1, 10)},
		// by these the dogs know a smell for 0 to 3 and 4 to 7 days, if the trail is the person 0's; else the other way round
		Sniffs: []api.DogSniff{bark(0, 0, 10), silent(0, 0, 14), bark(1, 0, 10), silent(1, 0, 14)},
	}
	list, e := dog.Whose(b, 0)
	wantList(t, "Whose", list, e, []int{0, 1}, api.OK)
	for hound := range b.Keeps {
		s, e := dog.Keeps(b, hound)
		want(t, fmt.Sprint("Keeps of ", hound), s, e, to(0, 7), api.OK)
		for day, must := range map[int]int{9: 0, 10: 2, 11: 1, 17: 1, 18: 0} {
			n, e := dog.Knows(b, hound, hound, day)
			want(t, fmt.Sprintf("Knows of %d on %d", hound, day), n, e, must, api.OK)
		}
		n, e := dog.Until(b, hound, hound)
		want(t, fmt.Sprint("Until of ", hound), n, e, 10, api.OK)
	}
}

// P5.2: which trails are somebody's.
func TestOf(t *testing.T) {
	four := pair()
	four.Trails = 4
	for i, x := range []struct {
		b               api.DogBook
		person          int
		surely, perhaps []int
	}{
		{book(), 2, nil, nil},
		{book(), 3, nil, nil},
		{free(bark(0, 0, 17)), 0, nil, []int{0}},
		{free(silent(0, 0, 12), silent(1, 0, 5)), 3, []int{0}, []int{0}},
		{four, 0, nil, []int{0, 1, 2, 3}},
		{four, 2, nil, []int{0, 1, 2, 3}},
		{with(four, bark(0, 3, 12), bark(0, 1, 13)), 0, []int{1, 3}, []int{0, 1, 2, 3}},
		{with(four, bark(0, 3, 12), bark(0, 1, 13)), 1, nil, []int{0, 2}},
		{with(four, bark(0, 2, 15), silent(0, 0, 14), silent(0, 0, 13)), 2, []int{0}, []int{0, 1, 3}},
		{api.DogBook{Persons: 1, Keeps: []api.Span{at(0)}}, 0, nil, nil},
		{api.DogBook{Persons: 1, Keeps: []api.Span{at(0)}}, 1, nil, nil},
		{api.DogBook{Persons: 6, Trails: 1, Keeps: []api.Span{at(0)}}, 6, nil, []int{0}},
	} {
		wantOf(t, fmt.Sprint("the book ", i), x.b, x.person, x.surely, x.perhaps, api.OK)
	}
	wantOf(t, "behind the stranger", book(), 4, nil, nil, api.ErrDogAsk)
}

// P5.4: on which days a dog knows somebody.
func TestKnows(t *testing.T) {
	for what, x := range map[string]struct {
		b    api.DogBook
		days map[int]int
	}{
		"for no day":          {alone(at(0), 7), map[int]int{0: 0, 6: 0, 7: 2, 8: 0, 999: 0}},
		"perhaps for a day":   {alone(to(0, 1), 7), map[int]int{6: 0, 7: 2, 8: 1, 9: 0}},
		"never met":           {alone(to(0, 8)), map[int]int{0: 0, 500: 0, 999: 0}},
		"for long":            {alone(to(52, 60), 0), map[int]int{0: 2, 52: 2, 53: 1, 60: 1, 61: 0}},
		"met twice":           {alone(to(2, 3), 20, 10), map[int]int{9: 0, 10: 2, 12: 2, 13: 1, 14: 0, 19: 0, 20: 2, 22: 2, 23: 1, 24: 0}},
		"met while it knows":  {alone(to(2, 3), 10, 12), map[int]int{12: 2, 13: 2, 14: 2, 15: 1, 16: 0}},
		"on the last day":     {alone(to(2, 3), 997), map[int]int{996: 0, 997: 2, 999: 2}},
		"it barked":           {with(alone(to(2, 8), 10), bark(0, 0, 15)), map[int]int{15: 2, 16: 1, 18: 1, 19: 0}},
		"it did not":          {with(alone(to(2, 8), 10), bark(0, 0, 12), silent(0, 0, 15)), map[int]int{12: 2, 13: 1, 14: 1, 15: 0}},
		"it perhaps need not": {with(alone(to(2, 8), 10), silent(0, 0, 15)), map[int]int{12: 2, 13: 1, 18: 1, 19: 0}},
	} {
		for day, must := range x.days {
			n, e := dog.Knows(x.b, 0, 0, day)
			want(t, fmt.Sprintf("%s: Knows on %d", what, day), n, e, must, api.OK)
		}
	}
	// the days of the other dog, or with another person, do not matter
	b := api.DogBook{Persons: 2, Keeps: []api.Span{at(1), at(9)}, Meets: []api.DogMeet{meet(0, 0, 5), meet(1, 1, 5)}}
	for i, must := range [][2]int{{2, 0}, {0, 2}} {
		for person := range 2 {
			n, e := dog.Knows(b, i, person, 6)
			want(t, fmt.Sprintf("Knows of %d, %d", i, person), n, e, must[person], api.OK)
		}
	}
}

// P5.5: until when a dog surely knows somebody, and which dog is taken.
func TestUntilAndTake(t *testing.T) {
	for i, x := range []struct {
		b    api.DogBook
		must int
		e    api.Errno
	}{
		{alone(at(0), 0), 0, api.OK},
		{alone(to(5, 8), 30, 10), 35, api.OK},
		{alone(to(5, 8), 10, 30, 20), 35, api.OK},
		{alone(to(52, 60), 999), 1051, api.OK},
		{alone(at(60), 999), 1059, api.OK},
		{alone(to(5, 8)), 0, api.ErrNone},
		{with(alone(to(2, 8), 10), bark(0, 0, 15)), 15, api.OK},
		{with(alone(to(2, 8), 10), silent(0, 0, 15)), 12, api.OK},
	} {
		n, e := dog.Until(x.b, 0, 0)
		want(t, fmt.Sprint("Until ", i), n, e, x.must, x.e)
	}
	three := api.DogBook{
		Persons: 2,
		Keeps:   []api.Span{to(0, 8), to(3, 5), to(3, 8)},
		Meets:   []api.DogMeet{meet(2, 0, 10), meet(1, 0, 10), meet(0, 0, 10), meet(2, 0, 14)},
	}
	for day, must := range map[int]int{10: 0, 11: 1, 13: 1, 14: 2, 17: 2} {
		n, e := dog.Take(three, 0, day)
		want(t, fmt.Sprint("Take on ", day), n, e, must, api.OK)
	}
	for _, day := range []int{0, 9, 18, 999} {
		n, e := dog.Take(three, 0, day)
		want(t, fmt.Sprint("Take on ", day), n, e, 0, api.ErrNone)
	}
	n, e := dog.Take(three, 1, 10)
	want(t, "Take for who was never met", n, e, 0, api.ErrNone)
}

// P5.6, R6: the dog that is asked, of several ones the first one.
func TestAsk(t *testing.T) {
	many := api.DogBook{
		Persons: 4, Trails: 2,
		Keeps: []api.Span{at(5), at(5), at(5)},
		Meets: []api.DogMeet{meet(0, 0, 10), meet(1, 0, 10), meet(1, 1, 10), meet(2, 2, 10), meet(2, 3, 10), meet(2, 1, 12)},
	}
	eight := with(many, slices.Repeat([]api.DogSniff{silent(0, 0, 9)}, 8)...)
	for i, x := range []struct {
		b          api.DogBook
		trail, day int
		must       int
		e          api.Errno
	}{
		{many, 0, 10, 1, api.OK},                                                // 4 of 5 are left at the worst, or 3, or 3
		{many, 0, 9, 0, api.OK},                                                 // no dog knows anybody
		{many, 0, 15, 1, api.OK},                                                // 4, 3, 3
		{many, 0, 16, 2, api.OK},                                                // 5, 5, 4: the person 1 was met last
		{many, 0, 18, 0, api.OK},                                                // nobody is known any more
		{with(many, bark(1, 0, 10)), 0, 10, 0, api.OK},                          // 0 or 1: each of the dogs 0 and 2 on its own
		{with(many, bark(1, 0, 10)), 0, 13, 0, api.OK},                          // likewise
		{with(many, bark(1, 0, 10)), 0, 17, 2, api.OK},                          // the dog 2 alone still knows the person 1
		{with(many, bark(1, 0, 10)), 1, 10, 1, api.OK},                          // of the other trail nothing is known
		{with(many, bark(0, 0, 10)), 0, 10, 0, api.ErrNone},                     // it is the person 0's
		{with(many, bark(0, 0, 10)), 1, 10, 1, api.OK},                          // the other one is not
		{with(many, silent(1, 0, 10), silent(2, 0, 10)), 0, 10, 0, api.ErrNone}, // it is a stranger's
		{eight, 0, 10, 1, api.OK},                                               // one sniff more than there can be
		{with(pair(), bark(0, 0, 9)), 0, 9, 0, api.ErrDogFalse},
	} {
		n, e := dog.Ask(x.b, x.trail, x.day)
		want(t, fmt.Sprint("Ask ", i), n, e, x.must, x.e)
	}
}

// P5.7, R6: the fewest sniffs, of several lists the first one.
func TestWrong(t *testing.T) {
	never := bark(0, 0, 9)
	for i, x := range []struct {
		b    api.DogBook
		must []int
	}{
		{free(), nil},
		{book(), nil},
		{falseBook(), []int{1}},
		{free(never), []int{0}},
		{free(never, never, silent(0, 0, 9)), []int{0, 1}},
		{free(silent(0, 0, 9), never, silent(0, 0, 9), never), []int{1, 3}},
		{free(bark(0, 0, 12), silent(0, 0, 12)), []int{0}},
		{free(silent(0, 0, 12), bark(0, 0, 12)), []int{0}},
		{free(bark(1, 0, 17), bark(0, 0, 17), silent(1, 0, 17), silent(1, 0, 16)), []int{0}},
		{free(silent(1, 0, 17), bark(0, 0, 17), bark(1, 0, 17), bark(1, 0, 16)), []int{0}},
		{free(bark(0, 0, 12), never, silent(0, 0, 12), silent(0, 0, 12)), []int{0, 1}},
		{pair(bark(0, 0, 23), silent(0, 1, 18), bark(0, 1, 12)), []int{0}},
		{pair(silent(0, 1, 18), bark(0, 1, 12), bark(0, 0, 23)), []int{0}},
		{pair(bark(0, 1, 12), bark(0, 0, 23), silent(0, 1, 18)), []int{0}},
		// two trails of which each has a wrong one, at the end
		{pair(bark(0, 0, 12), bark(0, 0, 13), silent(0, 0, 12), bark(0, 1, 13), bark(0, 1, 12), silent(0, 1, 13)), []int{2, 5}},
		// either of both pairs would do
		{pair(bark(0, 0, 12), silent(0, 0, 12), silent(0, 1, 12), bark(0, 1, 12)), []int{0, 2}},
		{free(slices.Repeat([]api.DogSniff{never}, 8)...), []int{0, 1, 2, 3, 4, 5, 6, 7}},
	} {
		list, e := dog.Wrong(x.b)
		wantList(t, fmt.Sprint("Wrong ", i), list, e, x.must, api.OK)
	}
}

// P1: also of the widest book all is told, or that it cannot be true.
func TestWidestBook(t *testing.T) {
	b := with(widest())
	for trail := range 4 {
		list, e := dog.Whose(b, trail)
		wantList(t, "Whose", list, e, []int{0, 1, 2, 3, 4, 5, 6}, api.OK)
	}
	for hound, must := range b.Keeps {
		s, e := dog.Keeps(b, hound)
		want(t, "Keeps", s, e, must, api.OK)
	}
	list, e := dog.Wrong(widest())
	wantList(t, "Wrong", list, e, []int{0, 1, 2, 3, 4, 5, 6, 7}, api.OK)
}

// R3: between a nil list and an empty one there is no difference.
func TestEmptyLists(t *testing.T) {
	one := api.DogBook{Persons: 2, Trails: 1, Keeps: []api.Span{to(1, 2)}}
	other := one
	other.Meets, other.Sniffs = []api.DogMeet{}, []api.DogSniff{}
	if a, b := askAll(one), askAll(other); a != b {
		t.Errorf("%s with nil lists; with empty ones %s", a, b)
	}
}

// What the limits and errors of package api are.
func TestGiven(t *testing.T) {
	given := []int{api.DogDogs, api.DogPersons, api.DogTrails, api.DogMeets, api.DogSniffs, api.DogKeep, api.DogSpan, api.MaxDay, api.DogNo, api.DogMay, api.DogYes}
	codes := []api.Errno{api.ErrNone, api.ErrDog, api.ErrDogAsk, api.ErrDogFalse}
	if !slices.Equal(given, []int{3, 6, 4, 12, 8, 60, 8, 999, 0, 1, 2}) || !slices.Equal(codes, []api.Errno{4, 50, 51, 52}) {
		t.Error("package api is not as it was given")
	}
}
