package name

import (
	"strings"

	"clavendier/api"
)

// within reports whether a number is from low to high.
func within(n, low, high int) bool { return low <= n && n <= high }

// isLetter reports whether a byte is a small letter.
func isLetter(b byte) bool { return 'a' <= b && b <= 'z' }

// isDigit reports whether a byte is a digit.
func isDigit(b byte) bool { return '0' <= b && b <= '9' }

// isName reports whether a text is a name.
func isName(text string) bool {
	if !within(len(text), 1, api.MaxName) {
		return false
	}
	for i := range len(text) {
		if !isLetter(text[i]) && (i == 0 || !isDigit(text[i])) {
			return false
		}
	}
	return true
}

// areLetters reports whether a text has different small letters alone.
func areLetters(text string) bool {
	for i := range len(text) {
		if !isLetter(text[i]) || strings.IndexByte(text[:i], text[i]) >= 0 {
			return false
		}
	}
	return true
}

// areGroups reports whether texts are groups of letters, no letter in two of them.
func areGroups(texts []string) bool {
	if len(texts) > api.NameGroups {
		return false
	}
	for _, group := range texts {
		if !within(len(group), 2, api.NameGroup) {
			return false
		}
	}
	return areLetters(strings.Join(texts, ""))
}

// isLine reports whether a line is valid.
func isLine(l api.NameLine) bool {
	return within(l.Book, 0, 1) && within(l.Minute, 0, api.NameMinute) && isName(l.Heard)
}

// isWay reports whether s is a span of minutes of a day.
func isWay(s api.Span) bool { return 0 <= s.Low && s.Low <= s.High && s.High <= api.NameMinute }

// isLineOf reports whether a number is that of a line of one of the books from first to last.
func isLineOf(b api.NameBook, line, first, last int) bool {
	return within(line, 0, len(b.Lines)-1) && within(b.Lines[line].Book, first, last)
}

// refuse returns the error of books, or else that of a question that is not valid.
func refuse(b api.NameBook, valid bool) api.Errno {
	if e := Check(b); e != api.OK {
		return e
	}
	if !valid {
		return api.ErrNameAsk
	}
	return api.OK
}
