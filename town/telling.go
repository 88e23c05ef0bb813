package town

// What is told of a town: its nights, what it owes, and what it owes if that is not below 0, or else 0.
const (
	tellNights = iota
	tellOwed
	tellDue
)

// telling is how something is told of a town that has so many nights.
type telling struct {
	of func(b book, n each, town int) int
}

// tellings returns all that is told of a town.
func tellings() [3]telling {
	return [...]telling{tellNights: {book.slept}, tellOwed: {book.owes}, tellDue: {book.due}}
}

// slept returns the nights of a town.
func (b book) slept(n each, town int) int { return n[town] }

// owes returns what a town owes.
func (b book) owes(n each, town int) int { return b.Rate*n[town] - b.Paid[town] }

// due returns what a town owes, but not less than 0.
func (b book) due(n each, town int) int { return max(0, b.owes(n, town)) }

// says reports whether a town says so many nights as it has.
func (b book) says(n each, town int) bool {
	return within(n[town], b.Says[town].Low, b.Says[town].High)
}

// against returns all towns that do not say so many nights as they have.
func (b book) against(n each) []int {
	var list []int
	for town := range b.House.Towns {
		if !b.says(n, town) {
			list = append(list, town)
		}
	}
	return list
}

// isSaid reports whether each town says so many nights as it has.
func (b book) isSaid(n each) bool { return len(b.against(n)) == 0 }
