package trail

// isTruth reports whether a walk is one of the trail in which all sights are right.
func (b trail) isTruth(walk []int) bool {
	if !b.hasLength(walk) || !within(walk[0], b.Start.Low, b.Start.High) {
		return false
	}
	for post := range b.last() {
		came, rest := walk[2*post], walk[2*post+1:]
		if !b.canLeave(post, came, rest[0]) {
			return false
		}
		if len(rest) == 1 {
			return b.mayStay[post]
		}
		pace := b.Stretches[post].Walk
		if !within(rest[1], rest[0]+pace.Low, rest[0]+pace.High) {
			return false
		}
	}
	return b.canLeave(b.last(), walk[2*b.last()], forever)
}

// hasLength reports whether a walk ends with the last post, or with a minute in which another one is left.
func (b trail) hasLength(walk []int) bool {
	whole := 2*b.last() + 1
	return len(walk) == whole || len(walk)%2 == 0 && within(len(walk), 2, whole-1)
}

// canLeave reports whether a post that is reached in a minute can be left in another one, if the sights at it are right.
func (b trail) canLeave(post, came, left int) bool {
	var just minutes
	just[came] = true
	for minute := range b.departures(post, &just) {
		if minute == left {
			return true
		}
	}
	return false
}
