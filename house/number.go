package house

import "cmp"

// greatest returns the greatest of several numbers.
func greatest[T cmp.Ordered](one T, more ...T) T {
	for _, n := range more {
		one = max(one, n)
	}
	return one
}

// least returns the least of several numbers.
func least[T cmp.Ordered](one T, more ...T) T {
	for _, n := range more {
		one = min(one, n)
	}
	return one
}
