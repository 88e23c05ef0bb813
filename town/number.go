package town

import "clavendier/api"

// each is a number for each town, and 0 for those that there are not.
type each [api.HouseTowns]int

// list returns the numbers of so many towns.
func (x each) list(towns int) []int { return x[:towns:towns] }

// sum returns the sum of the numbers of all towns.
func (x each) sum() int { return sum(x[:]...) }

// sum returns the sum of several numbers.
func sum[T ~int](list ...T) T {
	var all T
	for _, n := range list {
		all += n
	}
	return all
}
