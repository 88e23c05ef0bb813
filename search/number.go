package search

import "iter"

// sum returns the sum of several numbers.
func sum[T ~int](parts ...T) T {
	var all T
	for _, n := range parts {
		all += n
	}
	return all
}

// firstOf returns the first one of which something is so, if there is one.
func firstOf[T any](list iter.Seq[T], is func(one T) bool) (T, bool) {
	for one := range list {
		if is(one) {
			return one, true
		}
	}
	var none T
	return none, false
}

// lastOf returns the last one of which something is so, if there is one.
func lastOf[T any](list iter.Seq[T], is func(one T) bool) (T, bool) {
	var last T
	found := false
	for one := range list {
		if is(one) {
			last, found = one, true
		}
	}
	return last, found
}
