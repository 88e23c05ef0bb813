package slope

import (
	"iter"

	"clavendier/api"
)

// hour is an hour of a book, with the slope, what was seen of it then, and all that it can bring, each sum once.
type hour struct {
	api.SlopeHour
	slope  api.SlopeSlope
	sights []api.SlopeSight
	brings []int
}

// burden is how much one of something loads a slope, and how much of it there is in an hour.
type burden struct {
	weight int
	much   api.Span
}

// snow returns the burden of new snow.
func (h hour) snow() burden { return burden{h.slope.Snow, h.New} }

// wind returns the burden of wind.
func (h hour) wind() burden { return burden{h.slope.Wind, h.Wind} }

// sun returns the burden of sun.
func (h hour) sun() burden { return burden{h.slope.Sun, h.Sun} }

// source is one of what loads a slope.
type source struct{ burden func(h hour) burden }

// sources returns all that loads a slope.
func sources() [3]source { return [...]source{{hour.snow}, {hour.wind}, {hour.sun}} }

// brought yields what the hour brings, for all that there can be of each source.
func (h hour) brought() iter.Seq[int] {
	return func(yield func(int) bool) {
		all := sources()
		var bring func(parts []int) bool
		bring = func(parts []int) bool {
			if len(parts) == len(all) {
				return yield(sum(parts...))
			}
			x := all[len(parts)].burden(h)
			for more := range x.much.High - x.much.Low + 1 {
				if !bring(append(parts[:len(parts):len(parts)], x.weight*(x.much.Low+more))) {
					return false
				}
			}
			return true
		}
		bring(nil)
	}
}

// load returns the load in the hour, of what was left before it and what it brings.
func (h hour) load(left, brought int) int { return sum(max(left-h.slope.Settle, 0), brought) }

// fits reports whether a load fits all sights of the hour.
func (h hour) fits(load int) bool {
	for _, s := range h.sights {
		if !within(load, s.Load.Low, s.Load.High) {
			return false
		}
	}
	return true
}

// isTooMuch reports whether the slope may let go with a load.
func (h hour) isTooMuch(load int) bool { return load > h.slope.Hold }

// course is the loads of an hour with which the slope stays, and those with which it lets go.
type course struct{ stays, falls loads }

// course returns what can be of the hour if its sights are right, of what can be left before it.
func (h hour) course(before loads) course {
	all := h.loaded(before).those(h.fits)
	var c course
ways:
	for _, fell := range [...]bool{false, true} {
		for _, s := range h.sights {
			if s.Fell != fell {
				continue ways
			}
		}
		if fell {
			c.falls = all.those(h.isTooMuch)
		} else {
			c.stays = all
		}
	}
	return c
}

// loaded returns the loads that the hour can have, of what can be left before it.
func (h hour) loaded(before loads) loads {
	var all loads
	for left := range len(before) {
		if !before[left] {
			continue
		}
		for _, n := range h.brings {
			all[h.load(left, n)] = true
		}
	}
	return all
}

// loads returns all loads of an hour.
func (c course) loads() loads {
	all := c.stays
	for load := range len(all) {
		all[load] = all[load] || c.falls[load]
	}
	return all
}

// left returns what can be left behind an hour.
func (c course) left() loads {
	behind := c.stays
	if c.falls != (loads{}) {
		behind[0] = true
	}
	return behind
}
