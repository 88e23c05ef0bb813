package store_test

import (
	"fmt"
	"math"
	"slices"
	"testing"

	"clavendier/api"
	"clavendier/store"
)

func to(low, high int) api.Span { return api.Span{Low: low, High: high} }

func at(n int) api.Span { return to(n, n) }

// book is the store of the chapter, changed.
func book(changes ...func(b *api.StoreBook)) api.StoreBook {
	b := api.StoreBook{
		Goods: []api.StoreGood{
			{Have: to(50, 60), Each: to(1, 2), House: to(5, 6), Room: 80},
			{Have: at(20), Each: at(2), Spoil: to(0, 3), Room: 40},
		},
		Weeks: []api.Span{to(4, 6), to(5, 8), to(3, 9)},
		Mules: []api.StoreMule{{Week: to(1, 2), Good: 1, Load: to(20, 25)}},
	}
	for _, change := range changes {
		change(&b)
	}
	return b
}

// moreAtFirst makes the store of the chapter the rich one.
func moreAtFirst(b *api.StoreBook) { b.Goods[0].Have, b.Goods[1].Have = at(70), at(40) }

// bare is a store of one good, of which each guest needs 1, with so many guests in each week.
func bare(have api.Span, room int, guests ...int) api.StoreBook {
	b := api.StoreBook{Goods: []api.StoreGood{{Have: have, Each: at(1), Room: room}}}
	for _, n := range guests {
		b.Weeks = append(b.Weeks, at(n))
	}
	return b
}

// with is a store with mules that come in some weeks, with a load of the first good.
func with(b api.StoreBook, mules ...[2]api.Span) api.StoreBook {
	for _, m := range mules {
		b.Mules = append(b.Mules, api.StoreMule{Week: m[0], Load: m[1]})
	}
	return b
}

// good is a store of one good, and one week of so many guests.
func good(g api.StoreGood, guests api.Span) api.StoreBook {
	return api.StoreBook{Goods: []api.StoreGood{g}, Weeks: []api.Span{guests}}
}

// widest is the widest store that is valid.
func widest() api.StoreBook {
	return api.StoreBook{
		Goods: slices.Repeat([]api.StoreGood{{Have: to(0, 999), Each: to(0, 9), House: to(0, 99), Spoil: to(0, 99), Room: 999}}, 3),
		Weeks: slices.Repeat([]api.Span{to(0, 99)}, 9),
		Mules: slices.Repeat([]api.StoreMule{{Week: to(6, 9), Good: 2, Load: to(0, 500)}}, 4),
	}
}

// known is a span of a store: where it is, and the greatest number that it can have.
type known struct {
	of   func(b *api.StoreBook) *api.Span
	most int
}

// spans are all kinds of spans of the store of the chapter.
func spans() map[string]known {
	return map[string]known{
		"Have":   {func(b *api.StoreBook) *api.Span { return &b.Goods[0].Have }, 80},
		"Each":   {func(b *api.StoreBook) *api.Span { return &b.Goods[1].Each }, 9},
		"House":  {func(b *api.StoreBook) *api.Span { return &b.Goods[0].House }, 99},
		"Spoil":  {func(b *api.StoreBook) *api.Span { return &b.Goods[1].Spoil }, 99},
		"guests": {func(b *api.StoreBook) *api.Span { return &b.Weeks[2] }, 99},
		"Load":   {func(b *api.StoreBook) *api.Span { return &b.Mules[0].Load }, 500},
	}
}

// wrongStores are stores that are not valid.
func wrongStores() map[string]api.StoreBook {
	list := map[string]api.StoreBook{
		"nothing":                {},
		"no goods":               book(func(b *api.StoreBook) { b.Goods, b.Mules = nil, nil }),
		"no goods, but a list":   book(func(b *api.StoreBook) { b.Goods, b.Mules = []api.StoreGood{}, nil }),
		"four goods":             book(func(b *api.StoreBook) { b.Goods = slices.Repeat(b.Goods, 2) }),
		"far too many goods":     book(func(b *api.StoreBook) { b.Goods = make([]api.StoreGood, 1<<16) }),
		"no weeks":               book(func(b *api.StoreBook) { b.Weeks = nil }),
		"ten weeks":              book(func(b *api.StoreBook) { b.Weeks = make([]api.Span, 10) }),
		"far too many weeks":     book(func(b *api.StoreBook) { b.Weeks = make([]api.Span, 1<<16) }),
		"five mules":             book(func(b *api.StoreBook) { b.Mules = slices.Repeat(b.Mules, 5) }),
		"far too many mules":     book(func(b *api.StoreBook) { b.Mules = make([]api.StoreMule, 1<<16) }),
		"more than there is for": book(func(b *api.StoreBook) { b.Goods[1].Room = 19 }),
		"what runs out at once":  book(func(b *api.StoreBook) { b.Goods[0].Have, b.Mules[0].Good = at(0), 2 }),
	}
	for _, n := range []int{-1, 1000, math.MinInt, math.MaxInt} {
		list[fmt.Sprint("Room ", n)] = book(func(b *api.StoreBook) { b.Goods[0].Room = n })
		list[fmt.Sprint("Room for nothing ", n)] = book(func(b *api.StoreBook) { b.Goods[0].Have, b.Goods[0].Room = at(0), n })
		list[fmt.Sprint("Have all of a Room ", n)] = book(func(b *api.StoreBook) { b.Goods[0].Have, b.Goods[0].Room = at(n), n })
	}
	for _, n := range []int{-1, 2, 3, math.MinInt, math.MaxInt} {
		list[fmt.Sprint("Mule.Good ", n)] = book(func(b *api.StoreBook) { b.Mules[0].Good = n })
	}
	for _, s := range []api.Span{to(-1, 1), at(-1), to(2, 1), to(1, 5), to(0, 4), to(9, 10), at(10), to(0, 9), to(math.MinInt, math.MaxInt), to(math.MaxInt, math.MinInt), at(math.MaxInt)} {
		list[fmt.Sprint("Mule.Week ", s)] = book(func(b *api.StoreBook) { b.Mules[0].Week = s })
	}
	for what, x := range spans() {
		for _, s := range []api.Span{to(-1, 0), at(-1), to(1, 0), to(x.most, x.most-1), to(0, x.most+1), at(x.most + 1), to(math.MinInt, math.MaxInt), to(math.MaxInt, math.MinInt), at(math.MinInt), at(math.MaxInt)} {
			list[fmt.Sprint(what, " ", s)] = book(func(b *api.StoreBook) { *x.of(b) = s })
		}
	}
	return list
}

// want reports what a call returned, if it is not what was to be.
func want[T comparable](t *testing.T, call string, got T, e api.Errno, must T, code api.Errno) {
	t.Helper()
	if got != must || e != code {
		t.Errorf("%s: %v, error %d; not %v, error %d", call, got, e, must, code)
	}
}

// wantList does the same with lists.
func wantList[T comparable](t *testing.T, call string, got []T, e api.Errno, must []T, code api.Errno) {
	t.Helper()
	if !slices.Equal(got, must) || e != code {
		t.Errorf("%s: %v, error %d; not %v, error %d", call, got, e, must, code)
	}
}

// wantShort does the same with what Short returns.
func wantShort(t *testing.T, what string, b api.StoreBook, week, good int, code api.Errno) {
	t.Helper()
	w, g, e := store.Short(b)
	if w != week || g != good || e != code {
		t.Errorf("%s: Short: %d, %d, error %d; not %d, %d, error %d", what, w, g, e, week, good, code)
	}
}

// wantError asks all functions that are asked of a number, with these numbers of a good, a week and a mule.
func wantError(t *testing.T, what string, b api.StoreBook, good, week, mule int, e api.Errno) {
	t.Helper()
	what = fmt.Sprintf("%s, of the good %d, the week %d, the mule %d: ", what, good, week, mule)
	span, got := store.Left(b, good, week)
	want(t, what+"Left", span, got, api.Span{}, e)
	span, got = store.Lasts(b, good)
	want(t, what+"Lasts", span, got, api.Span{}, e)
	n, got := store.Most(b, week)
	want(t, what+"Most", n, got, 0, e)
	n, got = store.Need(b, good)
	want(t, what+"Need", n, got, 0, e)
	n, got = store.Later(b, mule)
	want(t, what+"Later", n, got, 0, e)
	is, got := store.Holds(b, []int{week})
	want(t, what+"Holds", is, got, false, e)
}

// P6.1, R7: what is valid, up to its ends.
func TestCheckValid(t *testing.T) {
	valid := map[string]api.StoreBook{
		"the store of the chapter":  book(),
		"the rich one":              book(moreAtFirst),
		"the widest one":            widest(),
		"nothing of anything":       {Goods: make([]api.StoreGood, 1), Weeks: make([]api.Span, 1)},
		"a list without mules":      book(func(b *api.StoreBook) { b.Mules = []api.StoreMule{} }),
		"what surely runs out":      bare(at(0), 0, 99),
		"three goods":               book(func(b *api.StoreBook) { b.Goods = append(b.Goods, b.Goods[0]) }),
		"nine weeks":                book(func(b *api.StoreBook) { b.Weeks = slices.Repeat(b.Weeks, 3) }),
		"four mules":                book(func(b *api.StoreBook) { b.Mules = slices.Repeat(b.Mules, 4) }),
		"as much as there is for":   book(func(b *api.StoreBook) { b.Goods[0].Have = to(80, 80) }),
		"room for nothing":          book(func(b *api.StoreBook) { b.Goods[0].Have, b.Goods[0].Room = at(0), 0 }),
		"room for all that can be":  book(func(b *api.StoreBook) { b.Goods[0].Have, b.Goods[0].Room = at(999), 999 }),
		"a load without room":       book(func(b *api.StoreBook) { b.Mules[0].Load, b.Goods[1].Room = at(500), 20 }),
		"a mule of the first good":  book(func(b *api.StoreBook) { b.Mules[0].Good = 0 }),
		"a mule behind all weeks":   book(func(b *api.StoreBook) { b.Mules[0].Week = at(9) }),
		"one that never may come":   book(func(b *api.StoreBook) { b.Mules[0].Week = to(6, 9) }),
		"one that may come at once": book(func(b *api.StoreBook) { b.Mules[0].Week = to(0, 3) }),
	}
	for what, x := range spans() {
		for _, s := range []api.Span{at(0), to(0, x.most), at(x.most)} {
			valid[fmt.Sprint(what, " ", s)] = book(func(b *api.StoreBook) { *x.of(b) = s })
		}
	}
	for what, b := range valid {
		if e := store.Check(b); e != api.OK {
			t.Errorf("%s: error %d", what, e)
		}
	}
}

// P6.1 to P6.7, P1, R1, R2: a store that is not valid is the first error of all functions, with nothing else, whatever is asked.
func TestWrongStore(t *testing.T) {
	const e = api.ErrStore
	for what, b := range wrongStores() {
		if got := store.Check(b); got != e {
			t.Errorf("Check, %s: error %d", what, got)
		}
		wantShort(t, what, b, 0, 0, e)
		list, got := store.Half(b)
		wantList(t, "Half, "+what, list, got, nil, e)
		is, got := store.Holds(b, nil)
		want(t, "Holds, "+what, is, got, false, e)
		for _, n := range []int{0, 1, -1, 3, 9, 1000, math.MinInt, math.MaxInt} {
			wantError(t, what, b, n, n, n, e)
		}
	}
}

// P6.2 to P6.7, P1, R1, R2: a wrong question is the next error, whether all lasts or not.
func TestWrongQuestion(t *testing.T) {
	const e = api.ErrStoreAsk
	for what, b := range map[string]api.StoreBook{"all lasts": book(moreAtFirst), "all may run out": book(), "all runs out": book(func(b *api.StoreBook) { b.Goods[0].Have, b.Goods[1].Have, b.Weeks[0] = at(0), at(0), at(9) })} {
		for _, n := range []int{-1, 3, 9, 10, math.MinInt, math.MaxInt} {
			wantError(t, what, b, n, n, n, e)
		}
		for _, n := range []int{-1, 2, 3, math.MinInt, math.MaxInt} {
			for week := range 3 {
				s, got := store.Left(b, n, week)
				want(t, fmt.Sprintf("%s: Left of %d behind %d", what, n, week), s, got, api.Span{}, e)
			}
			s, got := store.Lasts(b, n)
			want(t, fmt.Sprintf("%s: Lasts of %d", what, n), s, got, api.Span{}, e)
			m, got := store.Need(b, n)
			want(t, fmt.Sprintf("%s: Need of %d", what, n), m, got, 0, e)
		}
		for _, n := range []int{-1, 3, 9, math.MinInt, math.MaxInt} {
			for good := range 2 {
				s, got := store.Left(b, good, n)
				want(t, fmt.Sprintf("%s: Left of %d behind %d", what, good, n), s, got, api.Span{}, e)
			}
		}
		for _, n := range []int{-1, 1, 2, 4, math.MinInt, math.MaxInt} {
			m, got := store.Later(b, n)
			want(t, fmt.Sprintf("%s: Later of %d", what, n), m, got, 0, e)
		}
	}
	n, got := store.Later(bare(at(9), 9, 1), 0)
	want(t, "Later where there is no mule", n, got, 0, e)
}

// P6.7, P1: weeks that are no weeks, or not strictly increasing.
func TestWrongWeeks(t *testing.T) {
	for _, weeks := range [][]int{{-1}, {3}, {0, 3}, {-1, 0}, {0, 1, 2, 3}, {0, 0}, {1, 1}, {1, 0}, {0, 2, 1}, {0, 1, 1}, {2, 0}, {math.MinInt}, {math.MaxInt}, {0, math.MaxInt}, {0, 1, 2, 0}, make([]int, 1<<16)} {
		for what, b := range map[string]api.StoreBook{"all lasts": book(moreAtFirst), "all may run out": book()} {
			is, e := store.Holds(b, weeks)
			want(t, fmt.Sprintf("%s: Holds with %v", what, weeks[:min(9, len(weeks))]), is, e, false, api.ErrStoreAsk)
		}
	}
}

// The examples of the chapter.
func TestExamples(t *testing.T) {
	left := func(good, week int, must api.Span, code api.Errno) {
		t.Helper()
		s, e := store.Left(book(), good, week)
		want(t, fmt.Sprintf("Left of %d after the week %d", good, week), s, e, must, code)
	}
	left(0, 0, to(32, 51), api.OK)
	left(0, 1, to(10, 41), api.OK)
	left(0, 2, api.Span{}, api.ErrStoreOut)
	left(1, 0, to(5, 12), api.OK)
	left(1, 1, api.Span{}, api.ErrStoreOut)
	for good, must := range []api.Span{to(2, 3), to(1, 3)} {
		s, e := store.Lasts(book(), good)
		want(t, fmt.Sprint("Lasts of ", good), s, e, must, api.OK)
	}
	wantShort(t, "the store", book(), 1, 1, api.OK)
	for good, must := range []int{64, 32} {
		n, e := store.Need(book(), good)
		want(t, fmt.Sprint("Need of ", good), n, e, must, api.OK)
	}
	is, e := store.Holds(book(), []int{0, 1})
	want(t, "Holds in 0 1", is, e, true, api.OK)
	is, e = store.Holds(book(), []int{1, 2})
	want(t, "Holds in 1 2", is, e, false, api.OK)
	list, e := store.Half(book())
	wantList(t, "Half", list, e, []int{0, 1}, api.OK)
	n, e := store.Most(book(), 0)
	want(t, "Most of 0", n, e, 0, api.ErrNone)
	n, e = store.Most(book(moreAtFirst), 0)
	want(t, "Most of rich 0", n, e, 3, api.OK)
	n, e = store.Most(book(moreAtFirst), 2)
	want(t, "Most of rich 2", n, e, 1, api.OK)
	n, e = store.Later(book(moreAtFirst), 0)
	want(t, "Later of rich 0", n, e, 0, api.OK)
}

// Example 6 of the document.
func TestExampleOfTheDocument(t *testing.T) {
	b := good(api.StoreGood{Have: at(20), Each: at(2), Spoil: to(0, 3), Room: 20}, to(4, 6))
	s, e := store.Left(b, 0, 0)
	want(t, "Left", s, e, to(5, 12), api.OK)
}

// P6.2, P6.3: what is left at the end of each week, and for how many weeks the good lasts; a span of -1 tells that it may have run out.
func TestLeft(t *testing.T) {
	gone := at(-1)
	late := func(weeks api.Span) [2]api.Span { return [2]api.Span{weeks, at(8)} }
	for what, x := range map[string]struct {
		b     api.StoreBook
		left  []api.Span
		lasts api.Span
	}{
		"just enough":                         {bare(at(5), 5, 5), []api.Span{at(0)}, at(1)},
		"one too few":                         {bare(at(4), 5, 5), []api.Span{gone}, at(0)},
		"perhaps one too few":                 {bare(to(4, 5), 5, 5), []api.Span{gone}, to(0, 1)},
		"nothing, and nobody":                 {bare(at(0), 0, 0, 0), []api.Span{at(0), at(0)}, at(2)},
		"nothing, and then somebody":          {bare(at(0), 0, 0, 1, 0), []api.Span{at(0), gone, gone}, at(1)},
		"nothing comes back":                  {with(bare(at(3), 9, 4, 0, 1), late(at(1))), []api.Span{gone, gone, gone}, at(0)},
		"guests and the house, just enough":   {good(api.StoreGood{Have: at(9), Each: at(2), House: at(3), Room: 9}, at(3)), []api.Span{at(0)}, at(1)},
		"guests and the house, one too few":   {good(api.StoreGood{Have: at(8), Each: at(2), House: at(3), Room: 9}, at(3)), []api.Span{gone}, at(0)},
		"the house alone, one too few":        {good(api.StoreGood{Have: at(2), House: at(3), Room: 9}, at(9)), []api.Span{gone}, at(0)},
		"all spoils, but nothing runs out":    {good(api.StoreGood{Have: at(9), Each: at(2), Spoil: at(4), Room: 9}, at(3)), []api.Span{at(0)}, at(1)},
		"just all spoils":                     {good(api.StoreGood{Have: at(9), Each: at(2), Spoil: at(3), Room: 9}, at(3)), []api.Span{at(0)}, at(1)},
		"what spoils is not there before":     {good(api.StoreGood{Have: at(6), Each: at(2), Spoil: to(0, 99), Room: 9}, at(3)), []api.Span{at(0)}, at(1)},
		"some of it spoils":                   {good(api.StoreGood{Have: at(9), Each: at(2), Spoil: to(1, 2), Room: 9}, at(3)), []api.Span{to(1, 2)}, at(1)},
		"all that is known":                   {good(api.StoreGood{Have: to(50, 60), Each: to(2, 3), House: to(1, 4), Spoil: to(0, 5), Room: 99}, to(5, 6)), []api.Span{to(23, 49)}, at(1)},
		"the mule comes before the guests":    {with(bare(at(0), 9, 8), late(at(0))), []api.Span{at(0)}, at(1)},
		"the mule comes a week too late":      {with(bare(at(0), 9, 8, 0), late(at(1))), []api.Span{gone, gone}, at(0)},
		"the mule may come in time":           {with(bare(at(0), 9, 8, 0), late(to(0, 1))), []api.Span{gone, gone}, to(0, 2)},
		"the mule comes behind all weeks":     {with(bare(at(9), 20, 3, 3), late(at(2))), []api.Span{at(6), at(3)}, at(2)},
		"the mule may come behind all weeks":  {with(bare(at(9), 20, 3, 3), late(to(1, 4))), []api.Span{at(6), to(3, 11)}, at(2)},
		"there is no room for all of it":      {with(bare(at(9), 12, 3, 3), late(at(0))), []api.Span{at(9), at(6)}, at(2)},
		"there is room for all of it later":   {with(bare(at(9), 12, 6, 3, 3), late(to(0, 2))), []api.Span{to(3, 6), to(0, 8), to(0, 5)}, at(3)},
		"sooner a part of it is lost":         {with(bare(at(10), 10, 3, 3, 3, 3), late(to(0, 2))), []api.Span{at(7), to(4, 7), to(1, 7), gone}, to(3, 4)},
		"in time, but there is no room":       {with(bare(at(10), 10, 5, 5, 5), late(to(0, 1))), []api.Span{at(5), to(0, 5), gone}, to(2, 3)},
		"room alone for what two bring":       {with(bare(at(0), 10, 4), [2]api.Span{at(0), at(7)}, [2]api.Span{at(0), at(7)}), []api.Span{at(6)}, at(1)},
		"two, of which one is enough":         {with(bare(at(0), 20, 0, 5), [2]api.Span{to(0, 2), at(5)}, [2]api.Span{to(0, 1), at(6)}), []api.Span{to(0, 11), to(1, 6)}, at(2)},
		"two, which both may be too late":     {with(bare(at(0), 20, 0, 5), [2]api.Span{to(0, 2), at(5)}, [2]api.Span{to(1, 2), at(6)}), []api.Span{to(0, 5), gone}, to(1, 2)},
		"two, each with a part":               {with(bare(at(0), 20, 5), [2]api.Span{at(0), to(2, 4)}, [2]api.Span{at(0), to(3, 4)}), []api.Span{to(0, 3)}, at(1)},
		"nine weeks, and mules in the last":   {with(bare(at(8), 20, 1, 1, 1, 1, 1, 1, 1, 1, 1), [2]api.Span{at(8), at(1)}), []api.Span{at(7), at(6), at(5), at(4), at(3), at(2), at(1), at(0), at(0)}, at(9)},
		"nine weeks, and mules behind them":   {with(bare(at(8), 20, 1, 1, 1, 1, 1, 1, 1, 1, 1), [2]api.Span{at(9), at(1)}), []api.Span{at(7), at(6), at(5), at(4), at(3), at(2), at(1), at(0), gone}, at(8)},
		"what is too much for those who come": {bare(to(2, 9), 9, 1, 1, 1, 9), []api.Span{to(1, 8), to(0, 7), gone, gone}, to(2, 3)},
	} {
		for week, must := range x.left {
			s, e := store.Left(x.b, 0, week)
			call := fmt.Sprintf("%s: Left behind %d", what, week)
			if must == gone {
				want(t, call, s, e, api.Span{}, api.ErrStoreOut)
			} else {
				want(t, call, s, e, must, api.OK)
			}
		}
		s, e := store.Lasts(x.b, 0)
		want(t, what+": Lasts", s, e, x.lasts, api.OK)
	}
}

// P6.2, P6.3: the goods do not depend on each other, and mules bring their own good alone.
func TestGoods(t *testing.T) {
	three := func(haves ...int) api.StoreBook {
		b := api.StoreBook{Weeks: []api.Span{at(2), at(2), at(2)}}
		for i, have := range haves {
			b.Goods = append(b.Goods, api.StoreGood{Have: at(have), Each: at(i + 1), Room: 99})
		}
		return b
	}
	for i, x := range []struct {
		b          api.StoreBook
		lasts      []int
		week, good int
		e          api.Errno
	}{
		{three(6, 12, 18), []int{3, 3, 3}, 0, 0, api.ErrNone},
		{three(5, 12, 18), []int{2, 3, 3}, 2, 0, api.OK},
		{three(6, 11, 18), []int{3, 2, 3}, 2, 1, api.OK},
		{three(6, 12, 17), []int{3, 3, 2}, 2, 2, api.OK},
		{three(5, 11, 17), []int{2, 2, 2}, 2, 0, api.OK},
		{three(5, 4, 17), []int{2, 1, 2}, 1, 1, api.OK},
		{three(5, 4, 7), []int{2, 1, 1}, 1, 1, api.OK},
		{three(2, 3, 5), []int{1, 0, 0}, 0, 1, api.OK},
		{three(0, 0, 0), []int{0, 0, 0}, 0, 0, api.OK},
	} {
		for good, must := range x.lasts {
			s, e := store.Lasts(x.b, good)
			want(t, fmt.Sprintf("the store %d: Lasts of %d", i, good), s, e, at(must), api.OK)
		}
		wantShort(t, fmt.Sprint("the store ", i), x.b, x.week, x.good, x.e)
	}
	b := three(6, 12, 18)
	b.Mules = []api.StoreMule{{Week: at(1), Good: 1, Load: at(10)}, {Week: at(2), Good: 2, Load: to(1, 3)}}
	for good, must := range []api.Span{at(0), at(10), to(1, 3)} {
		s, e := store.Left(b, good, 2)
		want(t, fmt.Sprint("with mules: Left of ", good), s, e, must, api.OK)
	}
}

// P6.3: the first week in which a good runs out in some truth.
func TestShort(t *testing.T) {
	wantShort(t, "rich", book(moreAtFirst), 0, 0, api.ErrNone)
	wantShort(t, "in the last week", bare(to(2, 9), 9, 1, 1, 1), 2, 0, api.OK)
	wantShort(t, "in the first week", bare(to(0, 9), 9, 1, 1, 1), 0, 0, api.OK)
	wantShort(t, "if the mule is late", with(bare(at(1), 9, 1, 1, 1), [2]api.Span{to(1, 4), at(5)}), 1, 0, api.OK)
	wantShort(t, "if the mule is soon", with(bare(at(9), 9, 1, 8, 2), [2]api.Span{to(0, 2), at(2)}), 2, 0, api.OK)
}

// P6.4: how many guests more can come.
func TestMost(t *testing.T) {
	none := api.StoreGood{Have: at(9), House: at(3), Room: 9}
	two := func(have, other int) api.StoreBook {
		b := bare(at(have), 999, 3, 2)
		b.Goods = append(b.Goods, api.StoreGood{Have: at(other), Each: at(3), Room: 999})
		return b
	}
	for what, x := range map[string]struct {
		b    api.StoreBook
		week int
		must int
		e    api.Errno
	}{
		"no more":                        {bare(at(5), 9, 3, 2), 0, 0, api.OK},
		"all that is left":               {bare(at(9), 9, 3, 2), 0, 4, api.OK},
		"in the last week":               {bare(at(9), 9, 3, 2), 1, 4, api.OK},
		"it does not last as it is":      {bare(at(4), 9, 3, 2), 0, 0, api.ErrNone},
		"it may not last as it is":       {bare(to(4, 9), 9, 3, 2), 0, 0, api.ErrNone},
		"they need nothing":              {good(none, at(5)), 0, 99, api.OK},
		"they need nothing, but so many": {good(none, at(99)), 0, 99, api.OK},
		"it would be enough for more":    {bare(at(999), 999, 3, 2), 0, 99, api.OK},
		"just for 98":                    {bare(at(103), 999, 3, 2), 1, 98, api.OK},
		"just for 99":                    {bare(at(104), 999, 3, 2), 1, 99, api.OK},
		"99 came anyway":                 {bare(at(150), 999, 99, 2), 0, 49, api.OK},
		"what is known of guests":        {good(api.StoreGood{Have: at(9), Each: at(1), Room: 9}, to(2, 4)), 0, 5, api.OK},
		"of the first good less is left": {two(8, 999), 0, 3, api.OK},
		"of the other one less is left":  {two(8, 20), 0, 1, api.OK},
		"the other one does not last":    {two(8, 14), 0, 0, api.ErrNone},
		"before the mule":                {with(bare(at(5), 99, 3, 6), [2]api.Span{to(0, 1), at(9)}), 0, 2, api.OK},
		"behind the mule":                {with(bare(at(5), 99, 3, 6), [2]api.Span{to(0, 1), at(9)}), 1, 5, api.OK},
		"there is no room if it is soon": {with(bare(at(5), 9, 3, 6), [2]api.Span{to(0, 1), at(9)}), 0, 0, api.OK},
		"the rich store":                 {book(moreAtFirst), 1, 1, api.OK},
	} {
		n, e := store.Most(x.b, x.week)
		want(t, what+": Most", n, e, x.must, x.e)
	}
}

// P6.5: how much must be there at first.
func TestNeed(t *testing.T) {
	other := func(have, each int) api.StoreBook {
		b := bare(at(have), 9, 3, 2)
		b.Goods = append(b.Goods, api.StoreGood{Have: at(0), Each: at(each), Room: 30})
		return b
	}
	for what, x := range map[string]struct {
		b    api.StoreBook
		good int
		must int
		e    api.Errno
	}{
		"as much as there is":                {bare(at(5), 9, 3, 2), 0, 5, api.OK},
		"more than there is":                 {bare(at(0), 9, 3, 2), 0, 5, api.OK},
		"less than there is":                 {bare(to(6, 9), 9, 3, 2), 0, 5, api.OK},
		"all that there is room for":         {bare(at(0), 5, 3, 2), 0, 5, api.OK},
		"more than there is room for":        {bare(at(0), 4, 3, 2), 0, 0, api.ErrNone},
		"nothing":                            {bare(at(5), 9, 0, 0), 0, 0, api.OK},
		"nothing, without room":              {bare(at(0), 0, 0, 0), 0, 0, api.OK},
		"no room":                            {bare(at(0), 0, 1), 0, 0, api.ErrNone},
		"what spoils":                        {good(api.StoreGood{Each: at(2), House: at(1), Spoil: at(9), Room: 99}, at(3)), 0, 7, api.OK},
		"until the mule":                     {with(bare(at(0), 9, 3, 2), [2]api.Span{at(1), at(9)}), 0, 3, api.OK},
		"until the mule, if it is late":      {with(bare(at(0), 9, 3, 2, 1), [2]api.Span{to(1, 2), at(9)}), 0, 5, api.OK},
		"the mule is soon enough":            {with(bare(at(0), 9, 3, 2), [2]api.Span{at(0), at(9)}), 0, 0, api.OK},
		"the mule brings a part":             {with(bare(at(0), 9, 3, 6), [2]api.Span{at(0), to(4, 8)}), 0, 5, api.OK},
		"too much to have at once, or later": {with(bare(at(9), 9, 5, 5, 5), [2]api.Span{to(0, 1), at(9)}), 0, 0, api.ErrNone},
		"the other good does not last":       {other(5, 9), 0, 5, api.OK},
		"of the other good, of which is 0":   {other(5, 6), 1, 30, api.OK},
		"of the other good, without room":    {other(5, 7), 1, 0, api.ErrNone},
		"of the rich store":                  {book(moreAtFirst), 1, 32, api.OK},
		"as much as there can be":            {bare(at(0), 999, 99, 99, 99, 99, 99, 99, 99, 99, 99), 0, 891, api.OK},
	} {
		n, e := store.Need(x.b, x.good)
		want(t, what+": Need", n, e, x.must, x.e)
	}
}

// P6.6: by how much a mule can be later.
func TestLater(t *testing.T) {
	mule := func(low, high, load int) [2]api.Span { return [2]api.Span{to(low, high), at(load)} }
	other := bare(at(4), 9, 3, 2)
	other.Goods = append(other.Goods, api.StoreGood{Have: at(9), Each: at(1), Room: 9})
	other.Mules = []api.StoreMule{{Week: at(0), Good: 1, Load: at(9)}}
	for what, x := range map[string]struct {
		b    api.StoreBook
		mule int
		must int
		e    api.Errno
	}{
		"no week":                     {with(bare(at(3), 20, 3, 2), mule(0, 1, 9)), 0, 0, api.OK},
		"one week":                    {with(bare(at(3), 20, 3, 2), mule(0, 0, 9)), 0, 1, api.OK},
		"five weeks in all":           {with(bare(at(4), 20, 1, 1, 1, 1, 1), mule(0, 3, 9)), 0, 1, api.OK},
		"three weeks":                 {with(bare(at(9), 20, 3, 3, 3, 3, 3), mule(0, 0, 9)), 0, 3, api.OK},
		"it need not come":            {with(bare(at(5), 20, 3, 2), mule(0, 1, 9)), 0, 9, api.OK},
		"it does not come":            {with(bare(at(5), 20, 3, 2), mule(9, 9, 9)), 0, 9, api.OK},
		"eight weeks":                 {with(bare(at(8), 20, 1, 1, 1, 1, 1, 1, 1, 1, 1), mule(0, 0, 9)), 0, 8, api.OK},
		"it is too late anyway":       {with(bare(at(2), 20, 3, 2), mule(0, 1, 9)), 0, 0, api.ErrNone},
		"it is not enough anyway":     {with(bare(at(2), 20, 3, 2), mule(0, 0, 2)), 0, 0, api.ErrNone},
		"it may be too late anyway":   {with(bare(to(2, 3), 20, 3, 2), mule(0, 1, 9)), 0, 0, api.ErrNone},
		"another good does not last":  {other, 0, 0, api.ErrNone},
		"the other mule is enough":    {with(bare(at(3), 20, 3, 2), mule(0, 1, 9), mule(1, 1, 9)), 0, 9, api.OK},
		"the second of two":           {with(bare(at(3), 20, 3, 2, 9), mule(1, 1, 2), mule(1, 1, 9)), 1, 1, api.OK},
		"both only just enough":       {with(bare(at(3), 20, 3, 10, 1), mule(1, 1, 2), mule(1, 1, 9)), 0, 0, api.OK},
		"the first of two":            {with(bare(at(3), 20, 3, 2, 9), mule(1, 1, 2), mule(1, 1, 9)), 0, 1, api.OK},
		"sooner a part of it is lost": {with(bare(at(5), 7, 3, 3, 1), mule(0, 0, 4)), 0, 1, api.OK},
	} {
		n, e := store.Later(x.b, x.mule)
		want(t, what+": Later", n, e, x.must, x.e)
	}
}

// P6.7, R3: whether all lasts if guests get half, and the fewest weeks in which they must.
func TestHalf(t *testing.T) {
	each := func(each api.Span, have int, guests ...int) api.StoreBook {
		b := bare(at(have), 999, guests...)
		b.Goods[0].Each = each
		return b
	}
	tight := each(at(2), 6, 3, 4, 3)
	tight.Goods[0].Room = 6
	house := func(have int) api.StoreBook {
		return good(api.StoreGood{Have: at(have), Each: at(4), House: at(4), Spoil: at(4), Room: 9}, at(2))
	}
	for what, x := range map[string]struct {
		b     api.StoreBook
		weeks []int
		e     api.Errno
	}{
		"in none":                              {each(at(3), 30, 4, 2, 4), nil, api.OK},
		"half of 3 is 2, in the first":         {each(at(3), 29, 4, 2, 4), []int{0}, api.OK},
		"just enough in the first":             {each(at(3), 26, 4, 2, 4), []int{0}, api.OK},
		"in two":                               {each(at(3), 25, 4, 2, 4), []int{0, 1}, api.OK},
		"in two that are not the first":        {each(at(3), 23, 4, 2, 4), []int{0, 2}, api.OK},
		"in all":                               {each(at(3), 20, 4, 2, 4), []int{0, 1, 2}, api.OK},
		"in all it is too much":                {each(at(3), 19, 4, 2, 4), nil, api.ErrNone},
		"half of 1 is 1":                       {each(at(1), 5, 3, 3), nil, api.ErrNone},
		"half of 0 is 0":                       {each(at(0), 0, 3, 3), nil, api.OK},
		"half of 9 is 5":                       {each(at(9), 5, 1), []int{0}, api.OK},
		"half of 9 is not 4":                   {each(at(9), 4, 1), nil, api.ErrNone},
		"half of 8 is 4":                       {each(at(8), 4, 1), []int{0}, api.OK},
		"of what is known":                     {each(to(0, 6), 9, 2, 2), []int{}, api.ErrNone},
		"of what is known, enough":             {each(to(0, 6), 18, 2, 2), []int{0}, api.OK},
		"each week is enough":                  {each(at(2), 11, 1, 1, 4), []int{0}, api.OK},
		"the last week alone is enough":        {each(at(2), 8, 1, 1, 4), []int{2}, api.OK},
		"it must be early":                     {with(each(at(2), 5, 3, 3, 3), [2]api.Span{at(1), at(99)}), []int{0}, api.OK},
		"until the mule comes":                 {with(each(at(2), 10, 3, 3, 3), [2]api.Span{to(0, 2), at(5)}), []int{0}, api.OK},
		"there is no room to save before":      {with(tight, [2]api.Span{at(1), at(6)}, [2]api.Span{at(2), at(99)}), []int{1}, api.OK},
		"the house gets all of it":             {house(7), nil, api.ErrNone},
		"the house gets all, and it is enough": {house(8), []int{0}, api.OK},
		"the first of several":                 {each(at(2), 7, 1, 1, 1, 1), []int{0}, api.OK},
		"the first two of several":             {each(at(2), 6, 1, 1, 1, 1), []int{0, 1}, api.OK},
		"one that is last, not three before":   {each(at(2), 17, 1, 1, 1, 8), []int{3}, api.OK},
		"the second one, and the first is not": {each(at(2), 3, 0, 2), []int{1}, api.OK},
	} {
		list, e := store.Half(x.b)
		wantList(t, what+": Half", list, e, x.weeks, x.e)
		is, e := store.Holds(x.b, list)
		want(t, what+": Holds", is, e, x.e == api.OK, api.OK)
	}
	for _, none := range [][]int{nil, {}} {
		is, e := store.Holds(book(), none)
		want(t, "Holds of the store in no weeks", is, e, false, api.OK)
		is, e = store.Holds(book(moreAtFirst), none)
		want(t, "Holds of the rich store in no weeks", is, e, true, api.OK)
	}
	is, e := store.Holds(book(), []int{0, 1, 2})
	want(t, "Holds in all weeks", is, e, true, api.OK)
	is, e = store.Holds(house(7), []int{0})
	want(t, "Holds where the house gets all of it", is, e, false, api.OK)
}
