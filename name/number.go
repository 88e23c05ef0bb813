package name

import (
	"cmp"
	"iter"
)

// greatest returns the greatest of several numbers.
func greatest[T cmp.Ordered](one T, more ...T) T {
	for _, n := range more {
		one = max(one, n)
	}
	return one
}

// least returns the least of several numbers.
func least[T cmp.Ordered](one T, more ...T) T {
	for _, n := range more {
		one = min(one, n)
	}
	return one
}

// lists yields all strictly increasing lists of so many numbers below count, the first one first.
func lists(size, count int) iter.Seq[[]int] {
	return func(yield func([]int) bool) {
		var add func(list []int, from int) bool
		add = func(list []int, from int) bool {
			if len(list) == size {
				return yield(list)
			}
			for n := from; n < count; n++ {
				if !add(append(list[:len(list):len(list)], n), n+1) {
					return false
				}
			}
			return true
		}
		add(nil, 0)
	}
}
