package dead_test

import (
	"cmp"
	"math/rand"
	"slices"

	"clavendier/api"
	"clavendier/name"
)

// This file calculates what the document promises in the plainest way: it gives each find each person that it can be, or a stranger, leaves the lists that the chapter does not allow, and goes through all others for whatever is asked.

// naiveCan asks all that the chapter says of a find and a person, one by one.
func naiveCan(b api.DeadBook, find, person int) bool {
	f, p := b.Finds[find], b.People[person]
	buttons := f.Buttons == -1
	for kind := range api.DeadKinds {
		if kind == f.Buttons && p.Buttons/(1<<kind)%2 == 1 {
			buttons = true
		}
	}
	coins := true
	for mint := range api.DeadMints {
		if f.Coins/(1<<mint)%2 == 1 && p.Coins/(1<<mint)%2 == 0 {
			coins = false
		}
	}
	letter := f.Letter == ""
	if !letter {
		_, e := name.Near(b.Ear, f.Letter, p.Name)
		letter = e == api.OK
	}
	return buttons && coins && letter && f.Day.High >= p.Day
}

// naiveIsTruth asks all that the chapter says of a truth, one by one.
func naiveIsTruth(b api.DeadBook, who []int) bool {
	if len(who) != len(b.Finds) {
		return false
	}
	times := map[int]int{}
	for find, person := range who {
		if person < -1 || person >= len(b.People) || person >= 0 && !naiveCan(b, find, person) {
			return false
		}
		times[person]++
	}
	for person, n := range times {
		if person >= 0 && n > 1 || person == -1 && n > b.Strangers {
			return false
		}
	}
	return true
}

// lists lists all lists of so many numbers from -1 on, below a number.
func lists(length, below int) [][]int {
	all := [][]int{nil}
	for range length {
		var more [][]int
		for _, list := range all {
			for n := -1; n < below; n++ {
				more = append(more, append(slices.Clone(list), n))
			}
		}
		all = more
	}
	return all
}

// naiveTruths lists all truths.
func naiveTruths(b api.DeadBook) [][]int {
	all := [][]int{nil}
	for find := range b.Finds {
		var more [][]int
		for _, list := range all {
			more = append(more, append(slices.Clone(list), -1))
			for person := range b.People {
				if naiveCan(b, find, person) {
					more = append(more, append(slices.Clone(list), person))
				}
			}
		}
		all = more
	}
	return slices.DeleteFunc(all, func(who []int) bool { return !naiveIsTruth(b, who) })
}

// naiveLeft returns how many truths are left once it is known who a find is.
func naiveLeft(truths [][]int, find, person int) int {
	left := 0
	for _, who := range truths {
		if who[find] == person {
			left++
		}
	}
	return left
}

func naiveWho(b api.DeadBook, truths [][]int, find int) []int {
	var list []int
	for person := -1; person < len(b.People); person++ {
		if naiveLeft(truths, find, person) > 0 {
			list = append(list, person)
		}
	}
	return list
}

func naiveKnown(b api.DeadBook, truths [][]int) []int {
	known := slices.Repeat(list(-1), len(b.Finds))
	for find := range known {
		for person := range b.People {
			if naiveLeft(truths, find, person) == len(truths) {
				known[find] = person
			}
		}
	}
	return known
}

func naiveLiving(b api.DeadBook, truths [][]int) []int {
	var list []int
	for person := range b.People {
		if slices.ContainsFunc(truths, func(who []int) bool { return !slices.Contains(who, person) }) {
			list = append(list, person)
		}
	}
	return list
}

// cloned is a book that shares no finds and people with another one.
func cloned(b api.DeadBook) api.DeadBook {
	b.Finds, b.People = slices.Clone(b.Finds), slices.Clone(b.People)
	return b
}

// unread is a book without the letters of some finds.
func unread(b api.DeadBook, finds []int) api.DeadBook {
	b = cloned(b)
	for _, find := range finds {
		b.Finds[find].Letter = ""
	}
	return b
}

// letters lists all lists of finds that have a letter, shorter ones first, and those of one length in order.
func letters(b api.DeadBook) [][]int {
	var all [][]int
	for set := range 1 << len(b.Finds) {
		var list []int
		for find := range b.Finds {
			if set>>find&1 == 1 {
				list = append(list, find)
			}
		}
		if !slices.ContainsFunc(list, func(find int) bool { return b.Finds[find].Letter == "" }) {
			all = append(all, list)
		}
	}
	slices.SortFunc(all, func(one, other []int) int {
		return cmp.Or(cmp.Compare(len(one), len(other)), slices.Compare(one, other))
	})
	return all
}

// naiveWrong returns the first list of finds without whose letters there is a truth, or the error if there is none.
func naiveWrong(b api.DeadBook) ([]int, api.Errno) {
	for _, list := range letters(b) {
		if len(naiveTruths(unread(b, list))) > 0 {
			return list, api.OK
		}
	}
	return nil, api.ErrNone
}

// naiveWorst returns how many truths are left at the worst once it is known who a find is.
func naiveWorst(b api.DeadBook, truths [][]int, find int) int {
	worst := 0
	for person := -1; person < len(b.People); person++ {
		worst = max(worst, naiveLeft(truths, find, person))
	}
	return worst
}

// naiveAsk returns the find that should be asked for, or the error if nothing is left to be asked; there must be a truth.
func naiveAsk(b api.DeadBook, truths [][]int) (int, api.Errno) {
	if len(truths) == 1 {
		return 0, api.ErrNone
	}
	best := 0
	for find := range b.Finds {
		if naiveWorst(b, truths, find) < naiveWorst(b, truths, best) {
			best = find
		}
	}
	return best, api.OK
}

// spelled lists ways in which names can be written: within each list many are heard as one.
func spelled() [][]string {
	return [][]string{
		{"peter", "beter", "peder", "peter", "pehter"},
		{"hans", "ans", "hans"},
		{"b1"},
	}
}

// someName is a way in which a name can be written.
func someName(r *rand.Rand) string {
	names := spelled()[max(0, r.Intn(4)-1)]
	return names[r.Intn(len(names))]
}

// someEar is an ear that hears letters for others, or not.
func someEar(r *rand.Rand) api.NameEar {
	return api.NameEar{
		Alike: [][]string{{"bp", "dt"}, {"bpdt"}, nil}[r.Intn(3)],
		Mute:  []string{"h", ""}[r.Intn(2)],
		Slips: r.Intn(4),
	}
}

// someSet is a set of eight things, often with most of them.
func someSet(r *rand.Rand) int {
	return []int{r.Intn(256), r.Intn(256) | r.Intn(256) | r.Intn(256), 255}[r.Intn(3)]
}

// fewOf is a set of few of the things in a set.
func fewOf(r *rand.Rand, set int) int { return set & r.Intn(256) & r.Intn(256) & r.Intn(256) }

// someBook is a valid book of some finds and people; most finds can be several of the people.
func someBook(r *rand.Rand, finds, people int) api.DeadBook {
	b := api.DeadBook{Ear: someEar(r), Strangers: max(0, r.Intn(8)-5)}
	for range people {
		b.People = append(b.People, person(someName(r), someSet(r), someSet(r), r.Intn(30)))
	}
	for range finds {
		f := find(-1, fewOf(r, 255), "", 0, 20+r.Intn(30))
		f.Day.Low = r.Intn(f.Day.High + 1)
		if r.Intn(3) == 0 {
			f.Buttons = r.Intn(8)
		}
		if r.Intn(3) > 0 {
			f.Letter = someName(r)
		}
		b.Finds = append(b.Finds, f)
	}
	return b
}

// anyBook is someBook of a size that is quickly calculated.
func anyBook(r *rand.Rand) api.DeadBook { return someBook(r, r.Intn(5), r.Intn(6)) }

// leftOn is what was left on somebody who died on a day, of all that this person had.
func leftOn(r *rand.Rand, p api.DeadPerson, day int) api.DeadFind {
	f := find(-1, fewOf(r, p.Coins), "", day-r.Intn(day+1), day+r.Intn(20))
	if kind := r.Intn(8); p.Buttons>>kind&1 == 1 {
		f.Buttons = kind
	}
	for _, names := range spelled() {
		if slices.Contains(names, p.Name) && r.Intn(2) == 0 {
			f.Letter = names[r.Intn(len(names))]
		}
	}
	return f
}

// trulyDead is a book of those who truly died, on whom was left what they had, and who each of them truly is.
func trulyDead(r *rand.Rand) (api.DeadBook, []int) {
	b := api.DeadBook{Ear: api.NameEar{Alike: []string{"bp", "dt"}, Mute: "h", Slips: 2}}
	for range r.Intn(7) {
		b.People = append(b.People, person(someName(r), someSet(r), someSet(r), r.Intn(30)))
	}
	var truly []int
	missing := r.Perm(len(b.People))
	for range r.Intn(6) {
		who, p := -1, person(someName(r), someSet(r), someSet(r), r.Intn(30))
		if len(missing) > 0 && r.Intn(5) > 0 {
			who, missing = missing[0], missing[1:]
			p = b.People[who]
		} else {
			b.Strangers++
		}
		truly = append(truly, who)
		b.Finds = append(b.Finds, leftOn(r, p, p.Day+r.Intn(20)))
	}
	b.Strangers = min(5, b.Strangers+max(0, r.Intn(5)-3))
	return b, truly
}
