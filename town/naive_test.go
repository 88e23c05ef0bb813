package town_test

import (
	"cmp"
	"math/rand"
	"slices"

	"clavendier/api"
	"clavendier/house"
)

// This file calculates what the document promises in the plainest way: it gives each line of the brother 0 each line that can be of the same guest, or none, asks the layer of the house of each such list whether it is a truth, and goes through all truths for whatever is asked.

// naiveHouse lists all truths of a house.
func naiveHouse(b api.HouseBook) [][]api.NamePair {
	all := [][]api.NamePair{nil}
	for one, l := range b.Lines {
		var more [][]api.NamePair
		for _, list := range all {
			more = append(more, list)
			for other := range b.Lines {
				if can, _ := house.Can(b, one, other); can && l.Brother == 0 {
					more = append(more, append(slices.Clone(list), api.NamePair{One: one, Other: other}))
				}
			}
		}
		all = more
	}
	return slices.DeleteFunc(all, func(pairs []api.NamePair) bool {
		is, e := house.IsTruth(b, pairs)
		return !is || e != api.OK
	})
}

// naiveNights returns the nights of each town with these pairs: its lines less the pairs of such lines.
func naiveNights(b api.TownBook, pairs []api.NamePair) []int {
	nights := make([]int, b.House.Towns)
	for town := range nights {
		for _, l := range b.House.Lines {
			if l.Town == town {
				nights[town]++
			}
		}
		for _, p := range pairs {
			if b.House.Lines[p.One].Town == town && b.House.Lines[p.Other].Town == town {
				nights[town]--
			}
		}
	}
	return nights
}

// naiveAll lists the nights of each town in each truth of the house, as often as there are truths with them.
func naiveAll(b api.TownBook) [][]int {
	var all [][]int
	for _, pairs := range naiveHouse(b.House) {
		all = append(all, naiveNights(b, pairs))
	}
	return all
}

// naiveSays reports whether each town says these nights, but for those towns of a list.
func naiveSays(b api.TownBook, nights, but []int) bool {
	for town, n := range nights {
		if !slices.Contains(but, town) && !contains(b.Says[town], n) {
			return false
		}
	}
	return true
}

// naiveTruths lists the nights of each town in each truth of the book, of all truths of its house.
func naiveTruths(b api.TownBook, all [][]int) [][]int {
	return slices.DeleteFunc(slices.Clone(all), func(nights []int) bool { return !naiveSays(b, nights, nil) })
}

// naiveSpan returns the least and the greatest number that is counted in a truth; there must be one.
func naiveSpan(truths [][]int, count func(nights []int) int) api.Span {
	s := at(count(truths[0]))
	for _, nights := range truths {
		s.Low, s.High = min(s.Low, count(nights)), max(s.High, count(nights))
	}
	return s
}

// naiveOwes returns what a town owes that has so many nights.
func naiveOwes(b api.TownBook, nights []int, town int) int {
	return b.Rate*nights[town] - b.Paid[town]
}

func naiveAsked(b api.TownBook, truths [][]int) []int {
	asked := make([]int, b.House.Towns)
	for town := range asked {
		asked[town] = max(0, naiveSpan(truths, func(nights []int) int { return naiveOwes(b, nights, town) }).Low)
	}
	return asked
}

// naiveLoss returns what all towns owe more than they are asked for.
func naiveLoss(b api.TownBook, asked, nights []int) int {
	loss := 0
	for town, batzen := range asked {
		if more := naiveOwes(b, nights, town) - batzen; more > 0 {
			loss += more
		}
	}
	return loss
}

func naiveLost(b api.TownBook, truths [][]int) api.Span {
	asked := naiveAsked(b, truths)
	return naiveSpan(truths, func(nights []int) int { return naiveLoss(b, asked, nights) })
}

// naiveLeast returns the least nights of each town.
func naiveLeast(b api.TownBook, truths [][]int) []int {
	least := make([]int, b.House.Towns)
	for town := range least {
		least[town] = naiveSpan(truths, func(nights []int) int { return nights[town] }).Low
	}
	return least
}

// total returns the sum of a list.
func total(list []int) int {
	sum := 0
	for _, n := range list {
		sum += n
	}
	return sum
}

// naiveShare shares a bill; one of the nights must be above 0.
func naiveShare(nights []int, bill int) []int {
	all := total(nights)
	list, order := make([]int, len(nights)), make([]int, len(nights))
	for town, n := range nights {
		list[town], order[town] = bill*n/all, town
	}
	// What was rounded away is compared as all that was to be paid, less what is.
	away := func(town int) int { return bill*nights[town] - list[town]*all }
	left := bill - total(list)
	slices.SortStableFunc(order, func(one, other int) int { return cmp.Compare(away(other), away(one)) })
	for _, town := range order[:left] {
		list[town]++
	}
	return list
}

// naiveAgrees returns in how many of all truths of the house a town says its nights: 2 in all, 1 in some, 0 in none.
func naiveAgrees(b api.TownBook, all [][]int, town int) int {
	agreed := 0
	for _, nights := range all {
		if contains(b.Says[town], nights[town]) {
			agreed++
		}
	}
	switch agreed {
	case 0:
		return 0
	case len(all):
		return 2
	}
	return 1
}

// towns lists all lists of towns, shorter ones first, and those of one length in order.
func towns(count int) [][]int {
	var lists [][]int
	for set := range 1 << count {
		var list []int
		for town := range count {
			if set>>town&1 == 1 {
				list = append(list, town)
			}
		}
		lists = append(lists, list)
	}
	slices.SortFunc(lists, func(one, other []int) int {
		return cmp.Or(cmp.Compare(len(one), len(other)), slices.Compare(one, other))
	})
	return lists
}

// naiveWrong returns the first list of towns without which all others are right; there must be a truth of the house.
func naiveWrong(b api.TownBook, all [][]int) []int {
	lists := towns(b.House.Towns)
	return lists[slices.IndexFunc(lists, func(but []int) bool {
		return slices.ContainsFunc(all, func(nights []int) bool { return naiveSays(b, nights, but) })
	})]
}

// naiveWorst returns how many truths are left at the worst once the nights of a town are known.
func naiveWorst(truths [][]int, town int) int {
	worst := 0
	for answer := range api.HouseLines + 1 {
		left := 0
		for _, nights := range truths {
			if nights[town] == answer {
				left++
			}
		}
		worst = max(worst, left)
	}
	return worst
}

// naiveHear returns the town that should be heard, or the error if nothing is left to be heard.
func naiveHear(b api.TownBook, truths [][]int) (int, api.Errno) {
	if !slices.ContainsFunc(truths, func(nights []int) bool { return !slices.Equal(nights, truths[0]) }) {
		return 0, api.ErrNone
	}
	best := 0
	for town := range b.House.Towns {
		if naiveWorst(truths, town) < naiveWorst(truths, best) {
			best = town
		}
	}
	return best, api.OK
}

// someEar is an ear that hears letters for others, or not.
func someEar(r *rand.Rand) api.NameEar {
	return api.NameEar{
		Alike: [][]string{{"bp", "dt"}, {"bpdt"}, nil}[r.Intn(3)],
		Mute:  []string{"h", ""}[r.Intn(2)],
		Slips: r.Intn(4),
	}
}

// spelled lists ways in which names can be written: within each list many are heard as one.
func spelled() [][]string {
	return [][]string{
		{"peter", "beter", "peder", "peter", "pehter"},
		{"hans", "ans", "hans"},
		{"b1"},
	}
}

// someHouse is a valid house of some lines, many of which can be of one guest; the bowls of most nights are what they can be.
func someHouse(r *rand.Rand, count int) api.HouseBook {
	b := api.HouseBook{Ear: someEar(r), Towns: 1 + r.Intn(4)}
	lines, pairs := make([]int, 1+r.Intn(2)), make([]int, 2)
	for len(b.Lines) < count {
		l := line(r.Intn(2), r.Intn(len(lines)), r.Intn(b.Towns), "")
		names := spelled()[max(0, r.Intn(4)-1)]
		l.Heard = names[r.Intn(len(names))]
		b.Lines = append(b.Lines, l)
		lines[l.Night]++
		if len(b.Lines) < count && r.Intn(6) > 0 {
			// Often the other brother heard the same guest.
			l.Brother, l.Heard = 1-l.Brother, names[r.Intn(len(names))]
			b.Lines = append(b.Lines, l)
			lines[l.Night]++
			pairs[l.Night]++
		}
	}
	for night, n := range lines {
		low := n - pairs[night] + r.Intn(pairs[night]+1)/(1+r.Intn(2))
		if r.Intn(20) == 0 {
			low++
		}
		b.Bowls = append(b.Bowls, to(low, low+r.Intn(3)))
	}
	return b
}

// someBook is a valid book; most towns say what is near to what can be.
func someBook(r *rand.Rand, count int) api.TownBook {
	b := api.TownBook{House: someHouse(r, count), Rate: []int{0, 1, 7, r.Intn(101), 100}[r.Intn(5)]}
	for town := range b.House.Towns {
		most := 0
		for _, l := range b.House.Lines {
			if l.Town == town {
				most++
			}
		}
		says := to(0, 10)
		if r.Intn(3) > 0 {
			says.Low = max(0, most-r.Intn(4))
			says.High = min(10, says.Low+r.Intn(4))
		}
		b.Says = append(b.Says, says)
		b.Paid = append(b.Paid, []int{0, r.Intn(b.Rate*(most+1) + 1), b.Rate * r.Intn(most+1), r.Intn(10), 100000}[r.Intn(5)])
	}
	return b
}

// sleptHere is a book of guests who truly slept at the house, in which what towns say is right, and the true nights of each town: each night of a guest is in the list of one brother, or of both, under names that are heard as one.
func sleptHere(r *rand.Rand) (api.TownBook, []int) {
	h := api.HouseBook{Ear: api.NameEar{Alike: []string{"bp", "dt"}, Mute: "h", Slips: 2}, Towns: 1 + r.Intn(4)}
	b := api.TownBook{Rate: r.Intn(101)}
	guests, nights := make([]int, 1+r.Intn(5)), make([]int, h.Towns)
	for len(h.Lines) < api.HouseLines-1 && r.Intn(9) > 0 {
		night, town, in := r.Intn(len(guests)), r.Intn(h.Towns), 1+r.Intn(3)
		names := [][]string{{"peter", "beter", "peder"}, {"hans", "ans"}}[r.Intn(2)]
		for brother := range 2 {
			if in>>brother&1 == 1 {
				h.Lines = append(h.Lines, line(brother, night, town, names[r.Intn(len(names))]))
			}
		}
		guests[night]++
		nights[town]++
	}
	r.Shuffle(len(h.Lines), func(i, j int) { h.Lines[i], h.Lines[j] = h.Lines[j], h.Lines[i] })
	for _, n := range guests {
		h.Bowls = append(h.Bowls, to(max(0, n-r.Intn(3)), n+r.Intn(3)))
	}
	for _, n := range nights {
		b.Says = append(b.Says, to(max(0, n-r.Intn(3)), min(10, n+r.Intn(3))))
		b.Paid = append(b.Paid, r.Intn(b.Rate*(n+1)+1))
	}
	b.House = h
	return b, nights
}
