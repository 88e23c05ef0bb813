package cellarer

import (
	"iter"
	"strconv"
	"strings"

	"clavendier/api"
)

// take takes a token for a line; it reports whether the token is what it must be.
type take func(l *line, token string) bool

// word is what the first token of a line tells of it: what takes the tokens behind it, what it changes (nil, if it asks), and which layer is asked for the answer.
type word struct {
	tokens []take
	change func(s state, l line) state
	answer func(s state, l line) string
}

// line is a line that has the form: its numbers, in their order, its town, and the name that was heard.
type line struct {
	word
	text        string
	numbers     []int
	town, heard string
}

// words returns what is told by each first token.
func words() map[string]word {
	n, t, x := (*line).number, (*line).ofTown, (*line).name
	return map[string]word{
		"night": {[]take{n}, state.goOn, state.today},
		"sleep": {[]take{n, t, x}, state.sleep, state.guests},
		"bowls": {[]take{n, n}, state.serve, state.guests},
		"pay":   {[]take{t, n}, state.pay, state.owes},
		"say":   {[]take{t, n, n}, state.say, state.heads},
		"came":  {[]take{n, n, n}, state.came, state.short},
		"count": {[]take{n, n}, state.count, state.lasts},
		"saw":   {[]take{n, n, n}, state.saw, state.load},
		"fell":  {[]take{n, n, n}, state.fell, state.load},

		"today": {nil, nil, state.today},
		"paid":  {nil, nil, state.payments},
		"heads": {[]take{t}, nil, state.heads},
		"owes":  {[]take{t}, nil, state.owes},
		"asked": {nil, nil, state.asked},
		"lost":  {nil, nil, state.lost},
		"share": {[]take{n}, nil, state.share},
		"total": {nil, nil, state.total},
		"beds":  {nil, nil, state.beds},
		"twice": {nil, nil, state.twice},
		"left":  {[]take{n, n}, nil, state.left},
		"lasts": {[]take{n}, nil, state.lasts},
		"short": {nil, nil, state.short},
		"half":  {nil, nil, state.half},
		"load":  {[]take{n}, nil, state.load},
		"until": {[]take{n}, nil, state.until},
		"free":  {nil, nil, state.free},
		"cross": {[]take{n, n}, nil, state.cross},
	}
}

// read returns a line, or the error of a text that does not have the form.
func read(text string) (line, api.Errno) {
	if len(text) > api.CellarerLine || strings.Contains(text, "\n") {
		return line{}, api.ErrCellarerLine
	}
	// A line can be a part of a file: a clerk that keeps it is not to keep the whole file.
	l := line{text: strings.Clone(text)}
	tokens := strings.Split(l.text, " ")
	known := false
form:
	switch l.word, known = words()[tokens[0]]; {
	case known && len(tokens) == 1+len(l.tokens):
		for i, takes := range l.tokens {
			if !takes(&l, tokens[1+i]) {
				break form
			}
		}
		return l, api.OK
	}
	return line{}, api.ErrCellarerLine
}

// number takes a token as the next number of a line.
func (l *line) number(token string) bool {
	n, err := strconv.Atoi(token)
	l.numbers = append(l.numbers, n)
	// Nothing but a number without a plus sign and zeros in front is written as it was read.
	return err == nil && n >= 0 && strconv.Itoa(n) == token && len(token) <= api.CellarerDigits
}

// ofTown takes a token as the town of a line.
func (l *line) ofTown(token string) bool {
	l.town = token
	return token != ""
}

// name takes a token as the name that was heard.
func (l *line) name(token string) bool {
	l.heard = token
	return isName(token)
}

// asks reports whether a line changes nothing.
func (l line) asks() bool { return l.change == nil }

// linesOf returns all lines of a file, each without its line feed.
func linesOf(file string) iter.Seq[string] {
	return func(yield func(text string) bool) {
		for file != "" {
			text, rest, _ := strings.Cut(file, "\n")
			if !yield(text) {
				return
			}
			file = rest
		}
	}
}
