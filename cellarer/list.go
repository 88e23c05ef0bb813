package cellarer

// copied returns a list that shares no memory with another one, and has the same elements.
func copied[T any](list []T) []T { return append([]T(nil), list...) }

// lengthened returns a copy of a list with an element more.
func lengthened[T any](list []T, last T) []T {
	// Without room behind its end the list is copied.
	return append(list[:len(list):len(list)], last)
}

// replaced returns a copy of a list with another element in one place.
func replaced[T any](list []T, at int, by T) []T {
	list = copied(list)
	list[at] = by
	return list
}
