package trail

import "clavendier/api"

// stretch is a stretch in the calculation.
type stretch struct{ api.TrailStretch }

// isShut reports whether nobody sets out in a minute.
func (x stretch) isShut(minute int) bool {
	for _, s := range x.Shut {
		if within(minute, s.Low, s.High) {
			return true
		}
	}
	return false
}

// passed returns the first minute of which something is not so, from one on and by steps.
func passed(minute, step int, is func(minute int) bool) int {
	for is(minute) {
		minute += step
	}
	return minute
}

// leaves returns the minute in which one sets out whose rest is over in this one.
func (x stretch) leaves(ready int) int { return passed(ready, 1, x.isShut) }

// waits returns the minutes in which the rest can be over of one who sets out in this minute; none if nobody does.
func (x stretch) waits(left int) api.Span {
	if x.isShut(left) {
		return none()
	}
	return api.Span{Low: passed(left-1, -1, x.isShut) + 1, High: left}
}

// before returns the minutes in which one can come to the post before who sets out in this minute; none if nobody does.
func (x stretch) before(left int) api.Span {
	ready := x.waits(left)
	if isNone(ready) {
		return ready
	}
	return api.Span{Low: ready.Low - x.Rest.High, High: ready.High - x.Rest.Low}
}
