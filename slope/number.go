package slope

import (
	"math/bits"

	"clavendier/api"
)

// sum returns the sum of several numbers.
func sum[T ~int | ~uint](parts ...T) T {
	var all T
	for _, n := range parts {
		all += n
	}
	return all
}

// set is which numbers something can be: k just if the bit k is 1.
type set uint

// never is how often something can be that never is: 0 times.
const never set = 1

// span returns the least and the greatest member of a set; there must be one.
func (s set) span() api.Span {
	return api.Span{Low: bits.TrailingZeros(uint(s)), High: bits.Len(uint(s)) - 1}
}
