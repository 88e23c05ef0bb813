package clock

import (
	"iter"

	"clavendier/api"
)

// frost is when a frost truly began, and when it was over. One that stops nothing is frost{}, whenever it was.
type frost struct{ begin, end int }

// before returns what of a frost is before a minute.
func (f frost) before(minute int) frost {
	cut := frost{min(f.begin, minute), min(f.end, minute)}
	if cut.begin == cut.end {
		return frost{}
	}
	return cut
}

// truth is when all frosts truly were.
type truth [api.ClockFrosts]frost

// dial is a clock as it goes in one of its truths.
type dial struct {
	api.ClockClock
	when truth
}

// stopped returns in how many minutes before this one the clock stood still.
func (d dial) stopped(minute int) int {
	if d.when == (truth{}) {
		return 0
	}
	n := 0
	for _, f := range d.when {
		cut := f.before(minute)
		n += cut.end - cut.begin
	}
	return n
}

// shown returns what the clock shows in a minute.
func (d dial) shown(minute int) int { return d.Set + minute - d.stopped(minute) }

// last returns the last minute in which the clock shows no more than a reading; it is outside the three days if it never shows the reading.
func (d dial) last(reading int) int {
	minute := reading - d.Set
	for _, f := range d.when {
		// A frost that begins in the minute itself leaves the reading standing until it is over.
		if f == (frost{}) || f.begin > minute {
			continue
		}
		minute += f.end - f.begin
	}
	return minute
}

// first returns the first minute in which the clock shows no less than a reading; it is outside the three days if it never shows the reading.
func (d dial) first(reading int) int { return d.last(reading-1) + 1 }

// What can be asked of a dial.
const (
	showing  = iota // what it shows in a minute
	meaning         // in which minutes it shows a reading
	standing        // in how many minutes before one it stood still
)

// ends is how the low and the high end of an answer are found.
type ends struct{ low, high func(d dial, ask int) int }

// answers returns the ends of each answer.
func answers() [3]ends {
	return [...]ends{
		showing:  {dial.shown, dial.shown},
		meaning:  {dial.first, dial.last},
		standing: {dial.stopped, dial.stopped},
	}
}

// tell returns what a dial tells of what is asked, as far as it lies in known; an empty span if nothing of it does.
func (d dial) tell(kind, ask int, known api.Span) api.Span {
	e := answers()[kind]
	return api.Span{Low: greatest(e.low(d, ask), known.Low), High: min(e.high(d, ask), known.High)}
}

// passed returns how many minutes lie between two readings; an empty span if the second one is never shown in or behind a minute of the first one.
func (d dial) passed(from, to int) api.Span {
	one, other := d.tell(meaning, from, minutes()), d.tell(meaning, to, minutes())
	if isEmpty(one) || isEmpty(other) {
		return api.Span{Low: 0, High: -1}
	}
	return api.Span{Low: greatest(0, other.Low-one.High), High: other.High - one.Low}
}

// told returns between what lies what a clock tells of what is asked, in all truths; false if it tells nothing of it in any. Frosts matter before the minute until alone.
func told(c api.ClockClock, until, kind, ask int, known api.Span) (api.Span, bool) {
	var all reach
	for d := range dials(c, until) {
		all.add(d.tell(kind, ask, known))
	}
	return all.Span, all.any
}

// dials yields a clock in all its truths; those that do not differ before the minute until are yielded once.
func dials(c api.ClockClock, until int) iter.Seq[dial] {
	could := make([][]frost, len(c.Frosts))
	for i, f := range c.Frosts {
		could[i] = frosts(f, until)
	}
	return func(yield func(dial) bool) {
		d := dial{ClockClock: c}
		var choose func(i int) bool
		choose = func(i int) bool {
			if i == len(d.Frosts) {
				return yield(d)
			}
			for _, f := range could[i] {
				d.when[i] = f
				if !choose(i + 1) {
					return false
				}
			}
			return true
		}
		choose(0)
	}
}

// frosts returns all that a frost can truly have been before a minute, each once.
func frosts(known api.ClockFrost, until int) []frost {
	var list []frost
	listed := map[frost]bool{}
	for b := range known.Begin.High - known.Begin.Low + 1 {
		for e := range known.End.High - known.End.Low + 1 {
			f := frost{known.Begin.Low + b, known.End.Low + e}.before(until)
			if !listed[f] {
				listed[f] = true
				list = append(list, f)
			}
		}
	}
	return list
}
