package cellarer

import (
	"slices"
	"strings"

	"clavendier/api"
)

// lastWeek is the last week in which a mule can come.
const lastWeek = 9

// within reports whether a number is from low to high.
func within(n, low, high int) bool { return low <= n && n <= high }

// isSmall reports whether a byte is a small letter.
func isSmall(b byte) bool { return 'a' <= b && b <= 'z' }

// isDigit reports whether a byte is a digit.
func isDigit(b byte) bool { return '0' <= b && b <= '9' }

// isName reports whether a text is a name.
func isName(text string) bool {
	if !within(len(text), 1, api.MaxName) || !isSmall(text[0]) {
		return false
	}
	for _, b := range []byte(text) {
		if !isSmall(b) && !isDigit(b) {
			return false
		}
	}
	return true
}

// areTowns reports whether texts are the names of all towns.
func areTowns(names []string) bool {
	if !within(len(names), 1, api.HouseTowns) {
		return false
	}
	for t, name := range names {
		if !isName(name) || slices.Contains(names[:t], name) {
			return false
		}
	}
	return true
}

// checkFile returns the error of a file, but for those of its lines.
func checkFile(file string) api.Errno {
	if len(file) > api.MaxText {
		return api.ErrLong
	}
	if file != "" && !strings.HasSuffix(file, "\n") {
		return api.ErrForm
	}
	return api.OK
}
