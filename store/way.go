package store

import (
	"iter"

	"clavendier/api"
)

// way is a way in which mules come: in which week each of them does; 0 behind the last mule.
type way [api.StoreMules]int

// ways yields all ways in which mules can come.
func (s store) ways() iter.Seq[way] {
	return func(yield func(way) bool) {
		var try func(mule int, w way) bool
		try = func(mule int, w way) bool {
			if mule == len(s.Mules) {
				return yield(w)
			}
			known := s.Mules[mule].Week
			for later := range known.High - known.Low + 1 {
				w[mule] = known.Low + later
				if !try(mule+1, w) {
					return false
				}
			}
			return true
		}
		try(0, way{})
	}
}
