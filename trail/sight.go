package trail

import "clavendier/api"

// sight is what is said at a post, and what it tells of one who leaves this post.
type sight struct {
	api.TrailSight
	claim claim
}

// claim is what is said: in which minutes one can come to the post who leaves it in a minute, if that is right.
type claim struct {
	seen bool
	came func(s sight, left int) api.Span
}

// here is what can be of one who was there in one of the minutes.
func (s sight) here(left int) api.Span {
	if left < s.Minutes.Low {
		return none()
	}
	return api.Span{Low: 0, High: s.Minutes.High}
}

// away is what can be of one who was there in none of the minutes.
func (s sight) away(left int) api.Span {
	if left < s.Minutes.Low {
		return ever()
	}
	return api.Span{Low: s.Minutes.High + 1, High: latest}
}

// claims returns all that can be said.
func claims() [2]claim { return [...]claim{{true, sight.here}, {false, sight.away}} }

// said returns a sight in the calculation.
func said(s api.TrailSight) sight {
	x := sight{TrailSight: s}
	for _, c := range claims() {
		if c.seen == s.Seen {
			x.claim = c
		}
	}
	return x
}

// came returns the minutes in which one can come to the post who leaves it in a minute, if the sight is right.
func (s sight) came(left int) api.Span { return s.claim.came(s, left) }
