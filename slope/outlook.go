package slope

import "clavendier/api"

// moment is the beginning of an hour, and what is left before it.
type moment struct{ hour, left int }

// over is the moment behind the last hour: nothing follows to which it would matter what is left.
func (b book) over() moment { return moment{hour: len(b.hours)} }

// behind returns the moment behind an hour with what is left.
func (b book) behind(hour, left int) moment {
	if hour+1 == len(b.hours) {
		return b.over()
	}
	return moment{hour + 1, left}
}

// later returns a function that tells how often the slope can let go from an hour with a load on, if the sights from there on are right; no number if they cannot be. The load must be one of the courses.
func (b book) later(courses []course) func(hour, load int) set {
	known := map[moment]set{}
	var from func(m moment) set
	with := func(hour, load int) set {
		var stayed, fallen set
		if courses[hour].stays[load] {
			stayed = from(b.behind(hour, load))
		}
		if courses[hour].falls[load] {
			fallen = from(b.behind(hour, 0))
		}
		return stayed | fallen<<1
	}
	from = func(m moment) set {
		if m == b.over() {
			return never
		}
		if all, is := known[m]; is {
			return all
		}
		var all set
		h := b.hours[m.hour]
		for _, n := range h.brings {
			often := with(m.hour, h.load(m.left, n))
			all |= often
		}
		known[m] = all
		return all
	}
	return with
}

// outlook is what is so in the truths of a book: the loads in each hour, and how often the slope lets go in all of them.
type outlook struct {
	book
	loads []loads
	often set
}

// outlook returns the outlook of a book; false if it cannot be true.
func (b book) outlook() (outlook, bool) {
	courses, can := b.courses()
	if !can {
		return outlook{}, false
	}
	o := outlook{book: b}
	later := b.later(courses)
	for i, c := range courses {
		goesOn := func(load int) bool { return later(i, load) != 0 }
		o.loads = append(o.loads, c.loads().those(goesOn))
	}
	for load := range len(o.loads[0]) {
		if o.loads[0][load] {
			o.often |= later(0, load)
		}
	}
	return o, true
}

// load returns the least and the greatest load in an hour.
func (o outlook) load(hour int) api.Span { return o.loads[hour].span() }

// isSafe reports whether an hour is safe.
func (o outlook) isSafe(hour int) bool { return o.load(hour).High <= o.Slope.Hold }

// safeFrom returns how many hours from this one on, one after the other, are safe.
func (o outlook) safeFrom(hour int) int {
	n := 0
	for hour+n < len(o.hours) && o.isSafe(hour+n) {
		n++
	}
	return n
}
