package dog

import "clavendier/api"

// outlook is what is so in the truths of a book: for how many days each dog knows a smell, at least and at most, and whose each trail can be.
type outlook struct {
	book
	least, most keeps
	whose       owners
}

// outlook returns the outlook of a book; false if it cannot be true.
func (b book) outlook() (outlook, bool) {
	o := outlook{book: b, least: none, most: none}
	for days, whose := range b.truths() {
		if o.most == none {
			o.least = days
		}
		for dog := range b.Keeps {
			o.least[dog] = min(o.least[dog], days[dog])
			o.most[dog] = greatest(o.most[dog], days[dog])
		}
		for trail := range b.Trails {
			o.whose[trail] |= whose[trail]
		}
	}
	return o, o.most != none
}

// trails returns all trails of whose owners something is so.
func (o outlook) trails(is func(whose set) bool) []int {
	var list []int
	for trail := range o.Trails {
		if is(o.whose[trail]) {
			list = append(list, trail)
		}
	}
	return list
}

// atLeast returns for how many days a dog surely knows a smell.
func (o outlook) atLeast(dog int) int { return o.least[dog] }

// atMost returns for how many days a dog perhaps knows a smell.
func (o outlook) atMost(dog int) int { return o.most[dog] }

// end is an end of what is known of a dog.
type end struct{ days func(o outlook, dog int) int }

// ends returns the two ends of what is known of a dog.
func ends() [2]end { return [...]end{{outlook.atLeast}, {outlook.atMost}} }

// certain is how surely a dog knows somebody, by at how many ends of what is known of it this is so. The ends are enough: who is known for fewer days is known for more.
var certain = [...]int{api.DogNo, api.DogMay, api.DogYes}

// knows returns whether a dog knows a person on a day.
func (o outlook) knows(dog, person, day int) int {
	since, often := o.since(dog, person, day), 0
	for _, x := range ends() {
		if knows(since, x.days(o, dog)) {
			often++
		}
	}
	return certain[often]
}

// ask returns the dog whose bark or silence leaves the fewest whose a trail can be at the worst, the first one of several.
func (o outlook) ask(trail, day int) int {
	best, fewest := 0, api.DogPersons+2
	for dog := range o.Keeps {
		var left []int
		for _, barked := range barks {
			then, _ := o.with(api.DogSniff{Dog: dog, Trail: trail, Day: day, Barked: barked}).outlook()
			left = append(left, then.whose[trail].size())
		}
		if n := greatest(0, left...); n < fewest {
			best, fewest = dog, n
		}
	}
	return best
}
