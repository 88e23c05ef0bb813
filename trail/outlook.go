package trail

import (
	"maps"

	"clavendier/api"
)

// answers is what a post can answer that is asked whether the traveller was there.
var answers = [...]bool{false, true}

// outlook is a trail, with each moment in which a post is left in a truth, and what can be of it.
type outlook struct {
	trail
	legs map[moment]leg
}

// flags is of which posts, or of which stretches behind them, something is so.
type flags [api.TrailStretches + 1]bool

// numbers returns the numbers of all of which it is so, increasing.
func (f flags) numbers() []int {
	var list []int
	for i, is := range f {
		if is {
			list = append(list, i)
		}
	}
	return list
}

// outlook returns the outlook of a trail; false if there is no truth.
func (b trail) outlook() (outlook, bool) {
	o := outlook{b, maps.Collect(b.walks())}
	return o, len(o.legs) > 0
}

// isOn reports whether one who leaves a post in a moment can be on the stretch behind it in a minute.
func (x leg) isOn(m moment, minute int) bool { return m.minute < minute && minute < x.until }

// where returns all stretches on which the traveller can be in a minute, and all posts at which this can be.
func (o outlook) where(minute int) (stretches, posts []int) {
	var on, at flags
	for m, x := range o.legs {
		on[m.post] = on[m.post] || x.isOn(m, minute)
		at[m.post] = at[m.post] || within(minute, x.came.Low, m.minute)
	}
	return on.numbers(), at.numbers()
}

// comes returns the first and the last minute in which a post can be reached; false if it cannot.
func (o outlook) comes(post int) (api.Span, bool) {
	came := none()
	for m, x := range o.legs {
		if m.post == post {
			came = around(came, x.came)
		}
	}
	return came, !isNone(came)
}

// lies returns all stretches on which the traveller can have stayed.
func (o outlook) lies() []int {
	var stays flags
	for m := range o.legs {
		stays[m.post] = stays[m.post] || m != o.over() && o.mayStay[m.post]
	}
	return stays.numbers()
}

// surely returns 2 if a post is reached in each truth, 1 if in some, 0 if in none.
func (o outlook) surely(post int) int {
	if _, can := o.comes(post); !can {
		return 0
	}
	if lies := o.lies(); len(lies) > 0 && lies[0] < post {
		return 1
	}
	return 2
}

// out returns for how many minutes at least and at most the traveller can have been on a stretch in a minute; false if the traveller is not there.
func (o outlook) out(stretch, minute int) (api.Span, bool) {
	long := none()
	for m, x := range o.legs {
		if m.post == stretch && x.isOn(m, minute) {
			passed := minute - m.minute
			long = around(long, api.Span{Low: passed, High: passed})
		}
	}
	return long, !isNone(long)
}

// ask returns the post whose answer leaves the fewest stretches at the worst, the first one of several.
func (o outlook) ask(minutes api.Span, minute int) int {
	best, fewest := 0, len(o.Stretches)+1
	for post := range o.last() + 1 {
		var left []int
		for _, seen := range answers {
			then, _ := o.with(api.TrailSight{Post: post, Minutes: minutes, Seen: seen}).outlook()
			stretches, _ := then.where(minute)
			left = append(left, len(stretches))
		}
		if n := greatest(0, left...); n < fewest {
			best, fewest = post, n
		}
	}
	return best
}
