package store

import (
	"cmp"
	"iter"
)

// greatest returns the greatest of several numbers.
func greatest[T cmp.Ordered](one T, more ...T) T {
	for _, n := range more {
		one = max(one, n)
	}
	return one
}

// all reports whether something is so of all that is produced.
func all[T any](list iter.Seq[T], is func(one T) bool) bool {
	for one := range list {
		if !is(one) {
			return false
		}
	}
	return true
}
