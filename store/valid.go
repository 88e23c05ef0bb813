package store

import "clavendier/api"

// Limits of the chapter that are no constants of api.
const (
	lastWeek = 9 // the last week in which a mule can come
	latest   = 9 // weeks by which it can be later that are asked about
)

// within reports whether a number is from low to high.
func within(n, low, high int) bool { return low <= n && n <= high }

// isSpan reports whether s is a span from 0 to a number.
func isSpan(s api.Span, most int) bool { return 0 <= s.Low && s.Low <= s.High && s.High <= most }

// isGood reports whether a number is that of a good.
func isGood(b api.StoreBook, good int) bool { return within(good, 0, len(b.Goods)-1) }

// isWeek reports whether a number is that of a week.
func isWeek(b api.StoreBook, week int) bool { return within(week, 0, len(b.Weeks)-1) }

// isMule reports whether a number is that of a mule.
func isMule(b api.StoreBook, mule int) bool { return within(mule, 0, len(b.Mules)-1) }

// areWeeks reports whether all numbers of a list are those of weeks, strictly increasing.
func areWeeks(b api.StoreBook, weeks []int) bool {
	before := -1
	for _, week := range weeks {
		if week <= before || !isWeek(b, week) {
			return false
		}
		before = week
	}
	return true
}

// validGood reports whether a good is valid.
func validGood(g api.StoreGood) bool {
	if !within(g.Room, 0, api.StoreRoom) || !isSpan(g.Have, g.Room) {
		return false
	}
	return isSpan(g.Each, api.StoreEach) && isSpan(g.House, api.StoreHouse) && isSpan(g.Spoil, api.StoreHouse)
}

// validMule reports whether a mule of a store is valid.
func validMule(b api.StoreBook, m api.StoreMule) bool {
	if !isSpan(m.Week, lastWeek) || m.Week.High-m.Week.Low > api.StoreLate {
		return false
	}
	return isGood(b, m.Good) && isSpan(m.Load, api.StoreLoad)
}
