package store

import (
	"iter"

	"clavendier/api"
)

// out is how much there is of a good that has run out, and of one behind the last: less than anybody needs, so that it is out in all weeks behind.
const out = -1

// stock is how much of each good there is.
type stock [api.StoreGoods]int

// none is the stock in which there is no good that has not run out.
var none = stock{out, out, out}

// taker is one who takes from goods, and whether a good runs out where there is less than that.
type taker struct {
	takes func(s store, x slot, e end) int
	needs bool
}

// takers returns all who take from goods, in their order.
func takers() [3]taker {
	return [...]taker{{store.guests, true}, {store.house, true}, {store.time, false}}
}

// guests returns how much guests take.
func (s store) guests(x slot, e end) int {
	each := e.taken(s.Goods[x.good].Each)
	if s.halves[x.week] {
		each = (each + 1) / 2
	}
	return each * e.taken(s.Weeks[x.week])
}

// house returns how much the house takes.
func (s store) house(x slot, e end) int { return e.taken(s.Goods[x.good].House) }

// time returns how much time takes, if there is so much.
func (s store) time(x slot, e end) int { return e.taken(s.Goods[x.good].Spoil) }

// first returns how much there is at first.
func (s store) first(e end) stock {
	there := none
	for good, g := range s.Goods {
		there[good] = e.there(g.Have)
	}
	return there
}

// brought returns how much there is of the goods that have not run out, when the mules of a week have come.
func (s store) brought(there stock, week int, w way, e end) stock {
	for mule, m := range s.Mules {
		if w[mule] == week && there[m.Good] != out {
			there[m.Good] = min(there[m.Good]+e.there(m.Load), s.Goods[m.Good].Room)
		}
	}
	return there
}

// behind returns how much is left of what there is, at the end of a week.
func (s store) behind(there stock, week int, e end) stock {
goods:
	for good := range s.Goods {
		for _, t := range takers() {
			n := t.takes(s, slot{good, week}, e)
			if t.needs && there[good] < n {
				there[good] = out
				continue goods
			}
			there[good] = greatest(there[good]-n, 0)
		}
	}
	return there
}

// weeks yields how much of each good is left at the end of each week, if mules come in a way.
func (s store) weeks(w way, e end) iter.Seq2[int, stock] {
	return func(yield func(int, stock) bool) {
		there := s.first(e)
		for week := range len(s.Weeks) {
			// Mules bring nothing of what has run out.
			if there != none {
				there = s.behind(s.brought(there, week, w, e), week, e)
			}
			if !yield(week, there) {
				return
			}
		}
	}
}
