package store_test

import (
	"math/rand"
	"slices"

	"clavendier/api"
)

// This file calculates what the document promises in the plainest way: of tiny stores it goes through all truths, one by one; of larger ones through all that can be left of a good behind each week, for each way in which mules come; of the widest ones it tries what was truly so.

// truth is all that truly may be so of a store: what there is of each good at first, how many guests come in each week, what is needed of each good in each week, and when each mule comes, with how much.
type truth struct {
	have, guests       []int
	each, house, spoil [][]int
	week, load         []int
}

// What a number of a truth is: one of what is there, one of what is taken, or a week in which a mule comes.
const (
	isThere = iota
	isTaken
	isWeek
)

// number is what is known of a number of a truth.
type number struct {
	api.Span
	kind int
}

// half is half of a number, rounded up.
func half(n int) int { return n/2 + n%2 }

// eachOf is what a guest needs of a good in a week, if guests get half in some weeks.
func eachOf(b api.StoreBook, halves []int, good, week int) api.Span {
	s := b.Goods[good].Each
	if slices.Contains(halves, week) {
		return to(half(s.Low), half(s.High))
	}
	return s
}

// numbers lists what is known of all numbers of a truth.
func numbers(b api.StoreBook, halves []int) []number {
	var list []number
	for _, g := range b.Goods {
		list = append(list, number{g.Have, isThere})
	}
	for _, s := range b.Weeks {
		list = append(list, number{s, isTaken})
	}
	for good, g := range b.Goods {
		for week := range b.Weeks {
			list = append(list, number{eachOf(b, halves, good, week), isTaken}, number{g.House, isTaken}, number{g.Spoil, isTaken})
		}
	}
	for _, m := range b.Mules {
		list = append(list, number{m.Week, isWeek}, number{m.Load, isThere})
	}
	return list
}

// built is the truth of these numbers.
func built(b api.StoreBook, list []int) truth {
	next := func() int {
		n := list[0]
		list = list[1:]
		return n
	}
	var x truth
	for range b.Goods {
		x.have = append(x.have, next())
	}
	for range b.Weeks {
		x.guests = append(x.guests, next())
	}
	for range b.Goods {
		var each, house, spoil []int
		for range b.Weeks {
			each = append(each, next())
			house = append(house, next())
			spoil = append(spoil, next())
		}
		x.each, x.house, x.spoil = append(x.each, each), append(x.house, house), append(x.spoil, spoil)
	}
	for range b.Mules {
		x.week = append(x.week, next())
		x.load = append(x.load, next())
	}
	return x
}

// choices lists all lists of which each number lies in its span.
func choices(spans []api.Span) [][]int {
	lists := [][]int{nil}
	for _, s := range spans {
		var longer [][]int
		for _, list := range lists {
			for n := s.Low; n <= s.High; n++ {
				longer = append(longer, append(slices.Clone(list), n))
			}
		}
		lists = longer
	}
	return lists
}

// truths lists all truths of which each number lies in the span that is made of it.
func truths(b api.StoreBook, halves []int, span func(n number) api.Span) []truth {
	var spans []api.Span
	for _, n := range numbers(b, halves) {
		spans = append(spans, span(n))
	}
	var list []truth
	for _, numbers := range choices(spans) {
		list = append(list, built(b, numbers))
	}
	return list
}

// allTruths lists all truths of a tiny store.
func allTruths(b api.StoreBook, halves []int) []truth {
	return truths(b, halves, func(n number) api.Span { return n.Span })
}

// scarce lists those truths, one for each way in which mules come, in which the least is there, and the most is taken.
func scarce(b api.StoreBook, halves []int) []truth {
	return truths(b, halves, func(n number) api.Span {
		switch n.kind {
		case isThere:
			return at(n.Low)
		case isTaken:
			return at(n.High)
		}
		return n.Span
	})
}

// rich lists those in which the most is there, and the least is taken.
func rich(b api.StoreBook, halves []int) []truth {
	return truths(b, halves, func(n number) api.Span {
		switch n.kind {
		case isThere:
			return at(n.High)
		case isTaken:
			return at(n.Low)
		}
		return n.Span
	})
}

// lived is one truth, of which the numbers often are at the ends of what is known.
func lived(r *rand.Rand, b api.StoreBook, halves []int) truth {
	scarcely := r.Intn(3)
	some := truths(b, halves, func(n number) api.Span {
		if r.Intn(3) > 0 && n.kind != isWeek {
			if (n.kind == isThere) == (scarcely == 0) {
				return at(n.Low)
			} else if scarcely < 2 {
				return at(n.High)
			}
		}
		return at(n.Low + r.Intn(n.High-n.Low+1))
	})
	return some[0]
}

// happened lists how much is left of a good in a truth, at the end of each week until it runs out.
func happened(b api.StoreBook, x truth, good int) []int {
	var left []int
	there := x.have[good]
	for week := range b.Weeks {
		for i, m := range b.Mules {
			if m.Good == good && x.week[i] == week {
				there += x.load[i]
			}
		}
		there = min(there, b.Goods[good].Room)
		needed := x.guests[week]*x.each[good][week] + x.house[good][week]
		if there < needed {
			break
		}
		there = max(0, there-needed-x.spoil[good][week])
		left = append(left, there)
	}
	return left
}

// lastsIn reports whether all goods last for all weeks in all of some truths.
func lastsIn(b api.StoreBook, some []truth) bool {
	for _, x := range some {
		for good := range b.Goods {
			if len(happened(b, x, good)) < len(b.Weeks) {
				return false
			}
		}
	}
	return true
}

// fate is what can be of a good: what is left at the end of each week, and whether it runs out in it.
type fate struct {
	left []map[int]bool
	out  []bool
}

// newFate is a fate of which nothing is known yet.
func newFate(b api.StoreBook) fate {
	f := fate{out: make([]bool, len(b.Weeks))}
	for range b.Weeks {
		f.left = append(f.left, map[int]bool{})
	}
	return f
}

// truthByTruth tells the fates of all goods from all truths, one by one.
func truthByTruth(b api.StoreBook) []fate {
	var fates []fate
	for range b.Goods {
		fates = append(fates, newFate(b))
	}
	for _, x := range allTruths(b, nil) {
		for good, f := range fates {
			left := happened(b, x, good)
			for week, n := range left {
				f.left[week][n] = true
			}
			if len(left) < len(b.Weeks) {
				f.out[len(left)] = true
			}
		}
	}
	return fates
}

// weekByWeek follows all that can be there of a good, for each way in which mules come, and tells each week what can be left behind it, and whether it can run out in it; it stops where that is not wanted.
func weekByWeek(b api.StoreBook, halves []int, good int, tell func(week int, left map[int]bool, out bool) bool) {
	g := b.Goods[good]
	var spans []api.Span
	for _, m := range b.Mules {
		if m.Good != good {
			m.Week = at(0)
		}
		spans = append(spans, m.Week)
	}
	for _, way := range choices(spans) {
		there := map[int]bool{}
		for n := g.Have.Low; n <= g.Have.High; n++ {
			there[n] = true
		}
		for week := range b.Weeks {
			for i, m := range b.Mules {
				if m.Good == good && way[i] == week {
					there = loaded(there, m.Load, g.Room)
				}
			}
			rest, out := taken(there, needed(b, halves, good, week))
			there = spoiled(rest, g.Spoil)
			if !tell(week, there, out) {
				return
			}
		}
	}
}

// loaded is what can be there behind a load.
func loaded(there map[int]bool, load api.Span, room int) map[int]bool {
	then := map[int]bool{}
	for x := range there {
		for n := load.Low; n <= load.High; n++ {
			then[min(room, x+n)] = true
		}
	}
	return then
}

// needed is what guests and the house can need together of a good in a week.
func needed(b api.StoreBook, halves []int, good, week int) map[int]bool {
	all := map[int]bool{}
	g, each := b.Goods[good], eachOf(b, halves, good, week)
	for guests := b.Weeks[week].Low; guests <= b.Weeks[week].High; guests++ {
		for n := each.Low; n <= each.High; n++ {
			for house := g.House.Low; house <= g.House.High; house++ {
				all[guests*n+house] = true
			}
		}
	}
	return all
}

// taken is what can be there behind what is needed, and whether there can be less than that.
func taken(there, needed map[int]bool) (rest map[int]bool, out bool) {
	rest = map[int]bool{}
	for x := range there {
		for n := range needed {
			if x < n {
				out = true
			} else {
				rest[x-n] = true
			}
		}
	}
	return rest, out
}

// spoiled is what can be there when something has spoiled.
func spoiled(there map[int]bool, spoil api.Span) map[int]bool {
	then := map[int]bool{}
	for x := range there {
		for n := spoil.Low; n <= spoil.High; n++ {
			then[max(0, x-n)] = true
		}
	}
	return then
}

// fates tells the fates of all goods, week by week.
func fates(b api.StoreBook) []fate {
	var list []fate
	for good := range b.Goods {
		f := newFate(b)
		weekByWeek(b, nil, good, func(week int, left map[int]bool, out bool) bool {
			for n := range left {
				f.left[week][n] = true
			}
			f.out[week] = f.out[week] || out
			return true
		})
		list = append(list, f)
	}
	return list
}

// surelyLasts reports whether a good lasts for all weeks in all truths.
func surelyLasts(b api.StoreBook, halves []int, good int) bool {
	lasts := true
	weekByWeek(b, halves, good, func(_ int, _ map[int]bool, out bool) bool {
		lasts = lasts && !out
		return lasts
	})
	return lasts
}

// allLast reports whether all goods do.
func allLast(b api.StoreBook, halves []int) bool {
	for good := range b.Goods {
		if !surelyLasts(b, halves, good) {
			return false
		}
	}
	return true
}

// naiveLeft tells of a fate how much is left at the end of a week.
func naiveLeft(f fate, week int) (api.Span, api.Errno) {
	if slices.Contains(f.out[:week+1], true) {
		return api.Span{}, api.ErrStoreOut
	}
	s := to(1000, -1)
	for n := range f.left[week] {
		s = to(min(s.Low, n), max(s.High, n))
	}
	return s, api.OK
}

// naiveLasts tells of a fate for how many weeks the good lasts.
func naiveLasts(f fate) api.Span {
	s := to(len(f.out), 0)
	if first := slices.Index(f.out, true); first >= 0 {
		s.Low = first
	}
	for week, left := range f.left {
		if len(left) > 0 {
			s.High = week + 1
		}
	}
	return s
}

// naiveShort tells of all fates the first week in which a good can run out, and which one.
func naiveShort(fates []fate) (week, good int, e api.Errno) {
	for week := range fates[0].out {
		for good, f := range fates {
			if f.out[week] {
				return week, good, api.OK
			}
		}
	}
	return 0, 0, api.ErrNone
}

// changed is a store with lists of its own, changed.
func changed(b api.StoreBook, change func(b *api.StoreBook)) api.StoreBook {
	b.Goods, b.Weeks, b.Mules = slices.Clone(b.Goods), slices.Clone(b.Weeks), slices.Clone(b.Mules)
	change(&b)
	return b
}

// crowded is a store to which so many guests more can come in a week.
func crowded(b api.StoreBook, week, more int) api.StoreBook {
	return changed(b, func(b *api.StoreBook) { b.Weeks[week].High += more })
}

// holding is a store with just so much of a good at first.
func holding(b api.StoreBook, good, n int) api.StoreBook {
	return changed(b, func(b *api.StoreBook) { b.Goods[good].Have = at(n) })
}

// delayed is a store to which a mule can come by so many weeks later.
func delayed(b api.StoreBook, mule, more int) api.StoreBook {
	return changed(b, func(b *api.StoreBook) { b.Mules[mule].Week.High += more })
}

// naiveMost tries all numbers of guests more.
func naiveMost(b api.StoreBook, week int) (int, api.Errno) {
	if !allLast(b, nil) {
		return 0, api.ErrNone
	}
	more := 99
	for !allLast(crowded(b, week, more), nil) {
		more--
	}
	return more, api.OK
}

// naiveNeed tries all that can be there at first.
func naiveNeed(b api.StoreBook, good int) (int, api.Errno) {
	if !surelyLasts(holding(b, good, b.Goods[good].Room), nil, good) {
		return 0, api.ErrNone
	}
	n := 0
	for !surelyLasts(holding(b, good, n), nil, good) {
		n++
	}
	return n, api.OK
}

// naiveLater tries all numbers of weeks later.
func naiveLater(b api.StoreBook, mule int) (int, api.Errno) {
	if !allLast(b, nil) {
		return 0, api.ErrNone
	}
	more := 9
	for !allLast(delayed(b, mule, more), nil) {
		more--
	}
	return more, api.OK
}

// subsets lists all strictly increasing lists of numbers below n: shorter ones first, then the first one first.
func subsets(n int) [][]int {
	var lists [][]int
	for members := range 1 << n {
		var list []int
		for i := range n {
			if members>>i&1 == 1 {
				list = append(list, i)
			}
		}
		lists = append(lists, list)
	}
	slices.SortFunc(lists, func(a, b []int) int {
		if len(a) != len(b) {
			return len(a) - len(b)
		}
		return slices.Compare(a, b)
	})
	return lists
}

// naiveHalf tries all lists of weeks.
func naiveHalf(b api.StoreBook) ([]int, api.Errno) {
	for _, halves := range subsets(len(b.Weeks)) {
		if allLast(b, halves) {
			return halves, api.OK
		}
	}
	return nil, api.ErrNone
}

// size is how large a store is at most, and how wide what is known is.
type size struct{ goods, weeks, mules, room, guests, each, house, spoil, load, wide int }

// tiny, middle and whole are the sizes of stores with few truths, of those with few numbers, and of any store.
var (
	tiny   = size{2, 3, 2, 30, 4, 2, 3, 2, 12, 0}
	middle = size{3, 5, 4, 60, 5, 3, 4, 3, 20, 3}
	whole  = size{3, 9, 4, 999, 99, 9, 99, 99, 500, 99}
)

// someSpan is a span from 0 to a number.
func someSpan(r *rand.Rand, most, wide int) api.Span {
	low := r.Intn(most + 1)
	return to(low, min(most, low+r.Intn(wide+1)))
}

// someGood is a good that is valid.
func someGood(r *rand.Rand, s size) api.StoreGood {
	g := api.StoreGood{Each: someSpan(r, s.each, s.wide), House: someSpan(r, s.house, s.wide), Spoil: someSpan(r, s.spoil, s.wide), Room: s.room}
	g.Have = someSpan(r, s.room, s.wide)
	return g
}

// someStore is a store of a size; if that is large, many guests come, or they need much, but seldom both.
func someStore(r *rand.Rand, most size) api.StoreBook {
	most.guests = max(3, most.guests/(1+r.Intn(9)))
	most.each = max(2, most.each/(1+r.Intn(9)))
	most.house, most.spoil = most.house/(1+r.Intn(20)), most.spoil/(1+r.Intn(20))
	var b api.StoreBook
	for range 1 + r.Intn(most.goods) {
		b.Goods = append(b.Goods, someGood(r, most))
	}
	for range 1 + r.Intn(most.weeks) {
		b.Weeks = append(b.Weeks, someSpan(r, most.guests, most.wide))
	}
	for range r.Intn(most.mules + 1) {
		low := r.Intn(min(9, len(b.Weeks)) + 1)
		m := api.StoreMule{Week: to(low, min(9, low+r.Intn(4))), Good: r.Intn(len(b.Goods)), Load: someSpan(r, most.load, most.wide)}
		b.Mules = append(b.Mules, m)
	}
	for good := range b.Goods {
		if r.Intn(5) > 0 {
			balance(r, &b, good)
		}
	}
	return b
}

// balance gives a store about as much of a good at first as it may take, with or without what mules bring, and often little room for more.
func balance(r *rand.Rand, b *api.StoreBook, good int) {
	g := &b.Goods[good]
	need, loads := 0, 0
	for _, s := range b.Weeks {
		need += s.High*g.Each.High + g.House.High + g.Spoil.High
	}
	for _, m := range b.Mules {
		if m.Good == good {
			loads += m.Load.Low
		}
	}
	have := need*(50+r.Intn(60))/100 - loads*r.Intn(2)
	low := max(0, min(g.Room, have))
	g.Have = to(low, min(g.Room, low+r.Intn(g.Have.High-g.Have.Low+1)))
	if r.Intn(2) == 0 {
		g.Room = min(g.Room, g.Have.High+r.Intn(loads+1))
	}
}

// someTinyStore is a store of which a few numbers are known between bounds.
func someTinyStore(r *rand.Rand) api.StoreBook {
	b := someStore(r, tiny)
	for i := range b.Mules {
		b.Mules[i].Week.High = min(b.Mules[i].Week.High, b.Mules[i].Week.Low+1)
	}
	var spans []*api.Span
	for i := range b.Goods {
		g := &b.Goods[i]
		spans = append(spans, &g.Have, &g.Each, &g.House, &g.Spoil)
	}
	for i := range b.Weeks {
		spans = append(spans, &b.Weeks[i])
	}
	for i := range b.Mules {
		spans = append(spans, &b.Mules[i].Load)
	}
	for range 40 {
		s := spans[r.Intn(len(spans))]
		if before := *s; s.Low > 0 {
			s.Low = max(0, s.Low-1-r.Intn(3))
			if truthsOf(b) > 600 {
				*s = before
			}
		}
	}
	return b
}

// truthsOf is how many truths a store has, or more than a thousand.
func truthsOf(b api.StoreBook) int {
	n := 1
	for _, x := range numbers(b, nil) {
		n = min(n*(x.High-x.Low+1), 1001)
	}
	return n
}
