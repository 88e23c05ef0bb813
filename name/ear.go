package name

import (
	"slices"
	"strings"

	"clavendier/api"
)

// ear is an ear that hears names.
type ear struct{ api.NameEar }

// isMute reports whether a letter is not heard.
func (e ear) isMute(letter byte) bool { return strings.IndexByte(e.Mute, letter) >= 0 }

// heard returns what is left of a name without its mute letters.
func (e ear) heard(name string) []byte { return slices.DeleteFunc([]byte(name), e.isMute) }

// alike reports whether two letters sound alike.
func (e ear) alike(one, other byte) bool {
	if one == other {
		return true
	}
	for _, group := range e.Alike {
		if strings.IndexByte(group, one) >= 0 && strings.IndexByte(group, other) >= 0 {
			return true
		}
	}
	return false
}

// apart returns how many letters two names are apart; false if they are not heard as one.
func (e ear) apart(one, other string) (int, bool) {
	a, b := e.heard(one), e.heard(other)
	if len(a) != len(b) {
		return 0, false
	}
	n := 0
	for i := range len(a) {
		if !e.alike(a[i], b[i]) {
			return 0, false
		}
		if a[i] != b[i] {
			n++
		}
	}
	if n > e.Slips {
		return 0, false
	}
	return n, true
}
