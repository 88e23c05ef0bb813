package town

// part is the part of a town of a bill: whole batzen, and what was rounded away, all of them by one divisor.
type part struct{ whole, rest int }

// parts are the parts of all towns, and when one was cut more than another one.
type parts struct {
	list    []part
	greater func(one, other part) bool
}

// restIsGreater reports whether more was rounded away of one part than of another one.
func restIsGreater(one, other part) bool { return one.rest > other.rest }

// next returns the first town of which the greatest part was rounded away.
func (p parts) next() int {
	best := 0
	for town := range p.list {
		if p.greater(p.list[town], p.list[best]) {
			best = town
		}
	}
	return best
}

// whole returns what each town pays.
func (p parts) whole() []int {
	list := make([]int, len(p.list))
	for town, x := range p.list {
		list[town] = x.whole
	}
	return list
}

// shared shares a bill by numbers, of which one is above 0 at least.
func shared(bill int, by []int) []int {
	all := sum(by...)
	p := parts{greater: restIsGreater}
	for _, n := range by {
		p.list = append(p.list, part{bill * n / all, bill * n % all})
	}
	for range bill - sum(p.whole()...) {
		town := p.next()
		p.list[town] = part{p.list[town].whole + 1, 0} // each of them gets one batz at most
	}
	return p.whole()
}
