package slope

import "clavendier/api"

// startMost is the greatest load before the first hour.
const startMost = 300

// within reports whether a number is from low to high.
func within(n, low, high int) bool { return low <= n && n <= high }

// isSpan reports whether s is a span of numbers from 0 to most.
func isSpan(s api.Span, most int) bool { return 0 <= s.Low && s.Low <= s.High && s.High <= most }

// isNarrow reports whether s is such a span that can be known of an hour.
func isNarrow(s api.Span, most int) bool { return isSpan(s, most) && s.High-s.Low <= api.SlopeSpan }

// isSlope reports whether a slope is valid.
func isSlope(s api.SlopeSlope) bool {
	for _, weight := range [...]int{s.Snow, s.Wind, s.Sun} {
		if !within(weight, 0, api.SlopeWeight) {
			return false
		}
	}
	return within(s.Settle, 0, api.SlopeSettle) && within(s.Hold, 1, api.SlopeHold)
}

// isWeather reports whether what is known of an hour is valid.
func isWeather(h api.SlopeHour) bool {
	return isNarrow(h.New, api.SlopeNew) && isNarrow(h.Wind, api.SlopeForce) && isNarrow(h.Sun, api.SlopeForce)
}

// isHour reports whether a number is that of an hour.
func isHour(b api.SlopeBook, hour int) bool { return within(hour, 0, len(b.Hours)-1) }
