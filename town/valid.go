package town

import "clavendier/api"

// within reports whether a number is from low to high.
func within(n, low, high int) bool { return low <= n && n <= high }

// isTown reports whether a number is that of a town.
func isTown(b api.TownBook, town int) bool { return within(town, 0, b.House.Towns-1) }

// isWrongPaid reports whether so much cannot have been paid.
func isWrongPaid(batzen int) bool { return !within(batzen, 0, api.TownPaid) }

// isWrongSpan reports whether s is no span of nights that a town says.
func isWrongSpan(s api.Span) bool { return s.Low < 0 || s.Low > s.High || s.High > api.TownSays }
