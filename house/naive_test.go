package house_test

import (
	"math/rand"
	"slices"

	"clavendier/api"
	"clavendier/name"
)

// This file calculates what the document promises in the plainest way: it gives each line of the brother 0 each line of the brother 1, or none, and asks of each such list, of all nights together, whether it is a truth.

func naiveCan(b api.HouseBook, one, other int) bool {
	first, second := b.Lines[one], b.Lines[other]
	_, e := name.Near(b.Ear, first.Heard, second.Heard)
	return first.Brother != second.Brother && first.Night == second.Night && first.Town == second.Town && e == api.OK
}

// countIf returns of how many lines something is so.
func countIf(b api.HouseBook, is func(l api.HouseLine) bool) int {
	n := 0
	for _, l := range b.Lines {
		if is(l) {
			n++
		}
	}
	return n
}

// once counts the lines of which something is so, less the pairs of such lines.
func once(b api.HouseBook, pairs []api.NamePair, is func(l api.HouseLine) bool) int {
	n := countIf(b, is)
	for _, p := range pairs {
		if is(b.Lines[p.One]) && is(b.Lines[p.Other]) {
			n--
		}
	}
	return n
}

// naiveGuests returns how many guests there are in a night, with these pairs.
func naiveGuests(b api.HouseBook, pairs []api.NamePair, night int) int {
	return once(b, pairs, func(l api.HouseLine) bool { return l.Night == night })
}

// naiveHeads returns how many nights of a town there are, with these pairs.
func naiveHeads(b api.HouseBook, pairs []api.NamePair, town int) int {
	return once(b, pairs, func(l api.HouseLine) bool { return l.Town == town })
}

// naiveBeds returns how many guests there are in the night with the most of them.
func naiveBeds(b api.HouseBook, pairs []api.NamePair) int {
	most := 0
	for night := range b.Bowls {
		most = max(most, naiveGuests(b, pairs, night))
	}
	return most
}

// naiveIsTruth asks all that the chapter says of a truth, one by one.
func naiveIsTruth(b api.HouseBook, pairs []api.NamePair) bool {
	in := map[int]int{}
	for i, p := range pairs {
		if min(p.One, p.Other) < 0 || max(p.One, p.Other) >= len(b.Lines) {
			return false
		}
		if b.Lines[p.One].Brother != 0 || b.Lines[p.Other].Brother != 1 || !naiveCan(b, p.One, p.Other) {
			return false
		}
		if i > 0 && pairs[i-1].One >= p.One {
			return false
		}
		in[p.One]++
		in[p.Other]++
	}
	for line := range b.Lines {
		if in[line] > 1 {
			return false
		}
	}
	for night, bowls := range b.Bowls {
		if n := naiveGuests(b, pairs, night); n < bowls.Low || n > bowls.High {
			return false
		}
	}
	return true
}

// naiveTruths lists all truths.
func naiveTruths(b api.HouseBook) [][]api.NamePair {
	var ones, others []int
	for i, l := range b.Lines {
		if l.Brother == 0 {
			ones = append(ones, i)
		} else {
			others = append(others, i)
		}
	}
	all := [][]api.NamePair{nil}
	for _, one := range ones {
		var more [][]api.NamePair
		for _, list := range all {
			more = append(more, list)
			for _, other := range others {
				more = append(more, append(slices.Clone(list), api.NamePair{One: one, Other: other}))
			}
		}
		all = more
	}
	return slices.DeleteFunc(all, func(pairs []api.NamePair) bool { return !naiveIsTruth(b, pairs) })
}

// naiveSpan returns the least and the greatest number that is counted in a truth.
func naiveSpan(truths [][]api.NamePair, count func(pairs []api.NamePair) int) api.Span {
	s := at(count(truths[0]))
	for _, pairs := range truths {
		s.Low, s.High = min(s.Low, count(pairs)), max(s.High, count(pairs))
	}
	return s
}

// matchOf returns the other line of the pair of a line; -1 if it has none.
func matchOf(pairs []api.NamePair, line int) int {
	for _, p := range pairs {
		if p.One == line {
			return p.Other
		}
		if p.Other == line {
			return p.One
		}
	}
	return -1
}

// naiveTwice lists all pairs that are in each truth; there must be a truth.
func naiveTwice(truths [][]api.NamePair) []api.NamePair {
	var list []api.NamePair
	for _, p := range truths[0] {
		if !slices.ContainsFunc(truths, func(pairs []api.NamePair) bool { return !slices.Contains(pairs, p) }) {
			list = append(list, p)
		}
	}
	return list
}

// naiveWrong lists the nights that leave no truth, whatever was counted in all others.
func naiveWrong(b api.HouseBook) []int {
	var list []int
	for night, bowls := range b.Bowls {
		next := b
		next.Bowls = slices.Repeat([]api.Span{to(0, 99)}, len(b.Bowls))
		next.Bowls[night] = bowls
		if len(naiveTruths(next)) == 0 {
			list = append(list, night)
		}
	}
	return list
}

// naiveWorst returns how many truths are left at the worst once the match of a line is known.
func naiveWorst(b api.HouseBook, truths [][]api.NamePair, line int) int {
	worst := 0
	for answer := -1; answer < len(b.Lines); answer++ {
		left := 0
		for _, pairs := range truths {
			if matchOf(pairs, line) == answer {
				left++
			}
		}
		worst = max(worst, left)
	}
	return worst
}

func naiveAsk(b api.HouseBook, truths [][]api.NamePair) int {
	best := 0
	for line := range b.Lines {
		if naiveWorst(b, truths, line) < naiveWorst(b, truths, best) {
			best = line
		}
	}
	return best
}

// someEar is the ear of the chapter on names, or one that mishears more, or less.
func someEar(r *rand.Rand) api.NameEar {
	return api.NameEar{
		Alike: [][]string{{"bp", "dt"}, {"bpdt"}, {"pt"}, nil}[r.Intn(4)],
		Mute:  []string{"h", "eh", ""}[r.Intn(3)],
		Slips: r.Intn(4),
	}
}

// spelled lists ways in which names can be written: within each list many are heard as one.
func spelled() [][]string {
	return [][]string{
		{"peter", "beter", "peder", "beder", "pehter", "teter"},
		{"hans", "ans", "anhs", "hanhs"},
		{"b1", "p1", "d1", "hb1"},
	}
}

// someBook is a valid house of some lines, many of which can be of one guest; the bowls of most nights are near to what they can be.
func someBook(r *rand.Rand, count int) api.HouseBook {
	b := api.HouseBook{Ear: someEar(r), Towns: 1 + r.Intn(3)}
	nights := 1 + r.Intn(3)
	type guest struct {
		night, town int
		names       []string
	}
	var guests []guest
	for range 1 + r.Intn(6) {
		guests = append(guests, guest{r.Intn(nights), r.Intn(b.Towns), spelled()[r.Intn(3)]})
	}
	brother, g := 0, guests[0]
	for range count {
		// Often the other brother heard the same guest.
		if r.Intn(3) == 0 {
			brother = r.Intn(2)
		} else {
			brother = 1 - brother
		}
		if r.Intn(2) == 0 {
			g = guests[r.Intn(len(guests))]
		}
		b.Lines = append(b.Lines, line(brother, g.night, g.town, g.names[r.Intn(len(g.names))]))
	}
	for night := range nights {
		one := countIf(b, func(l api.HouseLine) bool { return l.Night == night && l.Brother == 0 })
		other := countIf(b, func(l api.HouseLine) bool { return l.Night == night && l.Brother == 1 })
		low := max(one, other)
		if r.Intn(2) == 0 {
			low += r.Intn(min(one, other) + 1)
		}
		if r.Intn(12) == 0 {
			low = r.Intn(5)
		}
		b.Bowls = append(b.Bowls, to(low, low+r.Intn(1+r.Intn(3))))
	}
	return b
}

// sleptHere is a house of guests who truly slept there, and the true pairs: each night of a guest is in the list of one brother, or of both, under names that are heard as one.
func sleptHere(r *rand.Rand) (api.HouseBook, []api.NamePair) {
	b := api.HouseBook{Ear: someEar(r), Towns: 1 + r.Intn(4)}
	nights := 1 + r.Intn(5)
	guests := make([]int, nights)
	var whose []int
	for guest := 0; len(b.Lines) < api.HouseLines && r.Intn(9) > 0; guest++ {
		night, town := r.Intn(nights), r.Intn(b.Towns)
		names := spelled()[r.Intn(3)]
		called := names[r.Intn(len(names))]
		guests[night]++
		in := 1 + r.Intn(3)
		if in&1 == 1 {
			b.Lines = append(b.Lines, line(0, night, town, called))
			whose = append(whose, guest)
		}
		if in&2 == 2 && len(b.Lines) < api.HouseLines {
			heard := names[r.Intn(len(names))]
			if _, e := name.Near(b.Ear, called, heard); e != api.OK {
				heard = called
			}
			b.Lines = append(b.Lines, line(1, night, town, heard))
			whose = append(whose, guest)
		}
	}
	for _, n := range guests {
		b.Bowls = append(b.Bowls, to(max(0, n-r.Intn(3)), n+r.Intn(3)))
	}
	return b, shuffled(r, b, whose)
}

// shuffled lays the lines of a house in some order, and returns the pairs of lines of one guest.
func shuffled(r *rand.Rand, b api.HouseBook, whose []int) []api.NamePair {
	r.Shuffle(len(whose), func(i, j int) {
		whose[i], whose[j] = whose[j], whose[i]
		b.Lines[i], b.Lines[j] = b.Lines[j], b.Lines[i]
	})
	var list []api.NamePair
	for one, guest := range whose {
		for other, same := range whose {
			if guest == same && b.Lines[one].Brother == 0 && b.Lines[other].Brother == 1 {
				list = append(list, api.NamePair{One: one, Other: other})
			}
		}
	}
	return list
}
