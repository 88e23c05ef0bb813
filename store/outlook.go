package store

import "clavendier/api"

// known returns how much of each good is left at the end of each week, at least and at most. The least is out if the good runs out by then in some truth, the most if it does in all.
func (s store) known() map[slot]api.Span {
	known := map[slot]api.Span{}
	for good := range s.Goods {
		for week := range len(s.Weeks) {
			known[slot{good, week}] = api.Span{Low: s.Goods[good].Room, High: out}
		}
	}
	for _, e := range ends() {
		for w := range s.ways() {
			for week, left := range s.weeks(w, e) {
				for good := range s.Goods {
					x := slot{good, week}
					known[x] = e.tell(known[x], left[good])
				}
			}
		}
	}
	return known
}

// short returns the first good that runs out in some truth, in the first such week.
func (s store) short() slot {
	known := s.known()
	for week := range len(s.Weeks) {
		for good := range s.Goods {
			if x := (slot{good, week}); known[x].Low == out {
				return x
			}
		}
	}
	return nowhere
}

// weeksOf returns for how many weeks a good lasts, at least and at most. A good that has run out is out in all weeks behind.
func (s store) weeksOf(good int) api.Span {
	var lasts api.Span
	known := s.known()
	for week := range len(s.Weeks) {
		left := known[slot{good, week}]
		if left.Low != out {
			lasts.Low++
		}
		if left.High != out {
			lasts.High++
		}
	}
	return lasts
}
