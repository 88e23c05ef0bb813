package trail

import "clavendier/api"

// apart is how far a time in which a stretch is shut begins behind the end of the one before, at least.
const apart = 2

// within reports whether a number is from low to high.
func within(n, low, high int) bool { return low <= n && n <= high }

// isSpan reports whether s is a span of numbers from low to high.
func isSpan(s api.Span, low, high int) bool { return low <= s.Low && s.Low <= s.High && s.High <= high }

// isMinute reports whether a minute can be asked about.
func isMinute(minute int) bool { return within(minute, 0, api.TrailLate) }

// isPost reports whether a number is that of a post.
func isPost(b api.TrailBook, post int) bool { return within(post, 0, len(b.Stretches)) }

// isStretch reports whether a stretch is valid.
func isStretch(x api.TrailStretch) bool {
	return isSpan(x.Walk, 1, api.TrailPace) && isSpan(x.Rest, 0, api.TrailRest) && areShut(x.Shut)
}

// areShut reports whether a stretch can be shut in these times.
func areShut(shut []api.Span) bool {
	if len(shut) > api.TrailShut {
		return false
	}
	for i, s := range shut {
		if !isSpan(s, 0, api.TrailLate) || i > 0 && s.Low-shut[i-1].High < apart {
			return false
		}
	}
	return true
}
