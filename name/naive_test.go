package name_test

import (
	"math/rand"
	"slices"
	"strings"

	"clavendier/api"
)

// This file calculates what the document promises in the plainest way: it gives each line of the book 0 each line of the book 1, or none, and asks of each such list whether it is a truth.

// naiveNear returns how many letters two names are apart, and whether they are heard as one.
func naiveNear(e api.NameEar, one, other string) (int, bool) {
	for _, letter := range strings.Split(e.Mute, "") {
		one, other = strings.ReplaceAll(one, letter, ""), strings.ReplaceAll(other, letter, "")
	}
	if len(one) != len(other) {
		return 0, false
	}
	group := map[byte]int{}
	for i, letters := range e.Alike {
		for _, letter := range []byte(letters) {
			group[letter] = i + 1
		}
	}
	apart := 0
	for i := range one {
		if one[i] == other[i] {
			continue
		}
		if group[one[i]] == 0 || group[one[i]] != group[other[i]] {
			return 0, false
		}
		apart++
	}
	return apart, apart <= e.Slips
}

func naiveCan(b api.NameBook, one, other int) bool {
	first, second := b.Lines[one], b.Lines[other]
	_, asOne := naiveNear(b.Ear, first.Heard, second.Heard)
	for way := b.Way.Low; way <= b.Way.High; way++ {
		if first.Minute+way == second.Minute || second.Minute+way == first.Minute {
			return asOne && first.Book != second.Book
		}
	}
	return false
}

// naiveIsTruth asks all that the chapter says of a truth, one by one.
func naiveIsTruth(b api.NameBook, pairs []api.NamePair) bool {
	in := map[int]int{}
	for i, p := range pairs {
		if min(p.One, p.Other) < 0 || max(p.One, p.Other) >= len(b.Lines) {
			return false
		}
		if b.Lines[p.One].Book != 0 || b.Lines[p.Other].Book != 1 || !naiveCan(b, p.One, p.Other) {
			return false
		}
		if i > 0 && pairs[i-1].One >= p.One {
			return false
		}
		in[p.One]++
		in[p.Other]++
	}
	lost := 0
	for line := range b.Lines {
		if in[line] > 1 {
			return false
		}
		if in[line] == 0 {
			lost++
		}
	}
	return lost <= b.Lost
}

// naiveTruths lists all truths.
func naiveTruths(b api.NameBook) [][]api.NamePair {
	var ones, others []int
	for i, l := range b.Lines {
		if l.Book == 0 {
			ones = append(ones, i)
		} else {
			others = append(others, i)
		}
	}
	all := [][]api.NamePair{nil}
	for _, one := range ones {
		var more [][]api.NamePair
		for _, list := range all {
			more = append(more, list)
			for _, other := range others {
				more = append(more, append(slices.Clone(list), api.NamePair{One: one, Other: other}))
			}
		}
		all = more
	}
	return slices.DeleteFunc(all, func(pairs []api.NamePair) bool { return !naiveIsTruth(b, pairs) })
}

// matchOf returns the other line of the pair of a line; -1 if it has none.
func matchOf(pairs []api.NamePair, line int) int {
	for _, p := range pairs {
		if p.One == line {
			return p.Other
		}
		if p.Other == line {
			return p.One
		}
	}
	return -1
}

func naiveKind(truths [][]api.NamePair, one, other int) int {
	n := 0
	for _, pairs := range truths {
		if matchOf(pairs, one) == other {
			n++
		}
	}
	switch n {
	case len(truths):
		return 2
	case 0:
		return 0
	}
	return 1
}

func naiveJoined(b api.NameBook, truths [][]api.NamePair) []api.NamePair {
	var list []api.NamePair
	for one := range b.Lines {
		for other := range b.Lines {
			if b.Lines[one].Book == 0 && naiveKind(truths, one, other) == 2 {
				list = append(list, api.NamePair{One: one, Other: other})
			}
		}
	}
	return list
}

func naivePeople(b api.NameBook, truths [][]api.NamePair) api.Span {
	var many []int
	for _, pairs := range truths {
		many = append(many, len(b.Lines)-len(pairs))
	}
	return api.Span{Low: slices.Min(many), High: slices.Max(many)}
}

// without is books without some lines.
func without(b api.NameBook, out []int) api.NameBook {
	var rest []api.NameLine
	for i, l := range b.Lines {
		if !slices.Contains(out, i) {
			rest = append(rest, l)
		}
	}
	b.Lines = rest
	return b
}

// subsets lists all strictly increasing lists of numbers below n: shorter ones first, then the first one first.
func subsets(n int) [][]int {
	var all [][]int
	for set := range 1 << n {
		var list []int
		for i := range n {
			if set>>i&1 == 1 {
				list = append(list, i)
			}
		}
		all = append(all, list)
	}
	slices.SortFunc(all, func(a, b []int) int {
		if len(a) != len(b) {
			return len(a) - len(b)
		}
		return slices.Compare(a, b)
	})
	return all
}

func naiveWrong(b api.NameBook) []int {
	for _, out := range subsets(len(b.Lines)) {
		if len(naiveTruths(without(b, out))) > 0 {
			return out
		}
	}
	return nil
}

// naiveWorst returns how many truths are left at the worst once the match of a line is known.
func naiveWorst(b api.NameBook, truths [][]api.NamePair, line int) int {
	worst := 0
	for answer := -1; answer < len(b.Lines); answer++ {
		left := 0
		for _, pairs := range truths {
			if matchOf(pairs, line) == answer {
				left++
			}
		}
		worst = max(worst, left)
	}
	return worst
}

func naiveAsk(b api.NameBook, truths [][]api.NamePair) int {
	best := 0
	for line := range b.Lines {
		if naiveWorst(b, truths, line) < naiveWorst(b, truths, best) {
			best = line
		}
	}
	return best
}

// shuffled returns some of the letters in some order.
func shuffled(r *rand.Rand, letters string) string {
	b := []byte(letters)
	r.Shuffle(len(b), func(i, j int) { b[i], b[j] = b[j], b[i] })
	return string(b)
}

// someEar is a valid ear that hears few letters.
func someEar(r *rand.Rand) api.NameEar {
	letters := shuffled(r, "abcdeh")
	e := api.NameEar{Slips: r.Intn(4), Mute: shuffled(r, "abh")[:r.Intn(3)]}
	for range r.Intn(3) {
		n := 2 + r.Intn(2)
		e.Alike = append(e.Alike, letters[:n])
		letters = letters[n:]
	}
	return e
}

// someName is a name of few letters and digits.
func someName(r *rand.Rand) string {
	b := []byte{"abcdeh"[r.Intn(6)]}
	for range r.Intn(4) {
		b = append(b, "abcdeh12"[r.Intn(8)])
	}
	return string(b)
}

// misheard is a name as such an ear can have heard it: mute letters come and go, and letters sound alike.
func misheard(r *rand.Rand, e api.NameEar, heard string) string {
	for range r.Intn(e.Slips + 1) {
		i := r.Intn(len(heard))
		for _, letters := range e.Alike {
			if strings.IndexByte(letters, heard[i]) >= 0 && strings.IndexByte(e.Mute, heard[i]) < 0 {
				letter := letters[r.Intn(len(letters))]
				if strings.IndexByte(e.Mute, letter) < 0 {
					heard = heard[:i] + string(letter) + heard[i+1:]
				}
				break
			}
		}
	}
	if e.Mute != "" && len(heard) < api.MaxName && r.Intn(2) == 0 {
		i := r.Intn(len(heard) + 1)
		heard = heard[:i] + e.Mute[:1] + heard[i:]
	}
	return heard
}

// someBook is valid books of some lines, many of which can be of one person.
func someBook(r *rand.Rand, lines int) api.NameBook {
	low := r.Intn(4)
	b := api.NameBook{Ear: someEar(r), Way: api.Span{Low: low, High: low + 2 + r.Intn(8)}, Lost: r.Intn(7)}
	names := []string{someName(r), someName(r)}
	for range lines {
		heard := misheard(r, b.Ear, names[r.Intn(len(names))])
		b.Lines = append(b.Lines, api.NameLine{Book: r.Intn(2), Minute: 700 + r.Intn(10), Heard: heard})
	}
	return b
}

// cameBy is books of people who truly came by, and the true pairs: each of them stands in one book or in both, under a name that can have been misheard once.
func cameBy(r *rand.Rand) (api.NameBook, []api.NamePair) {
	b := api.NameBook{Ear: someEar(r), Way: api.Span{Low: r.Intn(5), High: 5 + r.Intn(5)}}
	var whose []int
	names := []string{someName(r), someName(r), someName(r)}
	for person := range r.Intn(6) {
		called := names[r.Intn(len(names))]
		minute := 100 + r.Intn(20)
		took := b.Way.Low + r.Intn(b.Way.High-b.Way.Low+1)
		if r.Intn(2) == 0 {
			took = -took
		}
		in := 1 + r.Intn(3)
		if in&1 == 1 {
			b.Lines = append(b.Lines, api.NameLine{Book: 0, Minute: minute, Heard: called})
			whose = append(whose, person)
		}
		if in&2 == 2 && len(b.Lines) < api.NameLines {
			b.Lines = append(b.Lines, api.NameLine{Book: 1, Minute: minute + took, Heard: misheard(r, b.Ear, called)})
			whose = append(whose, person)
		}
		if len(b.Lines) == api.NameLines {
			break
		}
	}
	r.Shuffle(len(whose), func(i, j int) {
		whose[i], whose[j] = whose[j], whose[i]
		b.Lines[i], b.Lines[j] = b.Lines[j], b.Lines[i]
	})
	var pairs []api.NamePair
	for one, person := range whose {
		for other, same := range whose {
			if person == same && b.Lines[one].Book == 0 && b.Lines[other].Book == 1 {
				pairs = append(pairs, api.NamePair{One: one, Other: other})
			}
		}
	}
	b.Lost = min(api.NameLines, len(b.Lines)-2*len(pairs)+r.Intn(3))
	return b, pairs
}
