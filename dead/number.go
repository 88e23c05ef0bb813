package dead

import "cmp"

// greatest returns the greatest of several numbers.
func greatest[T cmp.Ordered](one T, more ...T) T {
	for _, n := range more {
		one = max(one, n)
	}
	return one
}
