package cellarer

import (
	"strconv"
	"strings"

	"clavendier/api"
	"clavendier/house"
	"clavendier/slope"
	"clavendier/store"
	"clavendier/town"
)

// numbers returns the answer of numbers.
func numbers(list ...int) string {
	if len(list) == 0 {
		return "-"
	}
	var texts []string
	for _, n := range list {
		texts = append(texts, strconv.Itoa(n))
	}
	return strings.Join(texts, " ")
}

// both returns the answer of a span.
func both(s api.Span, e api.Errno) string {
	heed(e)
	return numbers(s.Low, s.High)
}

// each returns the answer of a list.
func each(list []int, e api.Errno) string {
	heed(e)
	return numbers(list...)
}

// one returns the answer of a number.
func one(n int, e api.Errno) string {
	heed(e)
	return numbers(n)
}

// What the clerk and the layer of the house tell.

func (s state) today(line) string    { return numbers(s.night) }
func (s state) payments(line) string { return numbers(s.batzen()...) }
func (s state) guests(line) string   { return both(house.Guests(s.house(), s.night)) }
func (s state) total(line) string    { return both(house.Total(s.house())) }
func (s state) beds(line) string     { return one(house.Beds(s.house())) }

// twice returns the numbers of both lines of all pairs.
func (s state) twice(line) string {
	pairs, e := house.Twice(s.house())
	heed(e)
	var list []int
	for _, p := range pairs {
		list = append(list, p.One, p.Other)
	}
	return numbers(list...)
}

// What the layer of the town tells.

func (s state) heads(l line) string { return both(town.Nights(s.book(), s.townOf(l))) }
func (s state) owes(l line) string  { return both(town.Owes(s.book(), s.townOf(l))) }
func (s state) asked(line) string   { return each(town.Asked(s.book())) }
func (s state) lost(line) string    { return both(town.Lost(s.book())) }
func (s state) share(l line) string { return each(town.Share(s.book(), l.numbers[0])) }

// What the layer of the store tells.

func (s state) left(l line) string  { return both(store.Left(s.store, l.numbers[0], l.numbers[1])) }
func (s state) lasts(l line) string { return both(store.Lasts(s.store, l.numbers[0])) }
func (s state) half(line) string    { return each(store.Half(s.store)) }

// short returns the first week in which a good may run out, and the good.
func (s state) short(line) string {
	week, good, e := store.Short(s.store)
	if e == api.ErrNone {
		return numbers()
	}
	heed(e)
	return numbers(week, good)
}

// What the layer of the slope tells.

func (s state) load(l line) string  { return both(slope.Load(s.slope, l.numbers[0])) }
func (s state) until(l line) string { return one(slope.Until(s.slope, l.numbers[0])) }
func (s state) free(line) string    { return each(slope.Free(s.slope)) }
func (s state) cross(l line) string { return one(slope.Cross(s.slope, l.numbers[0], l.numbers[1])) }
