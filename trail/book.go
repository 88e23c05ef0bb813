package trail

import (
	"slices"

	"clavendier/api"
)

// trail is a trail in the calculation, with what is said at each post, and whether one can stay on the stretch behind it.
type trail struct {
	api.TrailBook
	sights  [api.TrailStretches + 1][]sight
	mayStay [api.TrailStretches + 1]bool
}

// prepared returns a trail that can be calculated with.
func prepared(b api.TrailBook) trail {
	c := trail{TrailBook: b}
	for _, s := range b.Sights {
		c.sights[s.Post] = append(c.sights[s.Post], said(s))
	}
	for post := range c.mayStay {
		seenLater := func(s api.TrailSight) bool { return s.Seen && s.Post > post }
		c.mayStay[post] = !slices.ContainsFunc(b.Sights, seenLater)
	}
	return c
}

// stretch returns the stretch behind a post.
func (b trail) stretch(post int) stretch { return stretch{b.Stretches[post]} }

// last returns the last post.
func (b trail) last() int { return len(b.Stretches) }

// start returns in which minutes the first post can be reached.
func (b trail) start() minutes {
	var came minutes
	for more := range b.Start.High - b.Start.Low + 1 {
		came[b.Start.Low+more] = true
	}
	return came
}

// canBe reports whether there is a truth.
func (b trail) canBe() bool {
	for range b.walks() {
		return true
	}
	return false
}

// with returns a trail with one sight more.
func (b trail) with(s api.TrailSight) trail {
	more := b.TrailBook
	more.Sights = append(b.Sights[:len(b.Sights):len(b.Sights)], s)
	return prepared(more)
}

// without returns a trail without some sights.
func (b trail) without(out []int) trail {
	rest := b.TrailBook
	rest.Sights = nil
	for i, s := range b.Sights {
		if !slices.Contains(out, i) {
			rest.Sights = append(rest.Sights, s)
		}
	}
	return prepared(rest)
}

// wrong returns the fewest sights without which there is a truth, the first ones of several.
func (b trail) wrong() []int {
	var best []int
	for i := range b.Sights {
		best = append(best, i)
	}
	// Lists come in their order, so one that is no shorter than the best one is no better.
	var leave func(out []int, from int)
	leave = func(out []int, from int) {
		if len(out) >= len(best) {
			return
		}
		if b.without(out).canBe() {
			best = out
			return
		}
		for i := from; i < len(b.Sights); i++ {
			leave(append(out[:len(out):len(out)], i), i+1)
		}
	}
	leave(nil, 0)
	return best
}
