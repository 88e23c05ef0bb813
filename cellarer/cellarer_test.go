package cellarer_test

import (
	"fmt"
	"math"
	"slices"
	"strings"
	"testing"

	"clavendier/api"
	"clavendier/cellarer"
)

func to(low, high int) api.Span { return api.Span{Low: low, High: high} }

func at(n int) api.Span { return to(n, n) }

func list(numbers ...int) []int { return numbers }

func texts(list ...string) []string { return list }

// change is how a setup is changed.
type change func(s *api.CellarerSetup)

// setup is the setup of the chapter, changed.
func setup(changes ...change) api.CellarerSetup {
	s := api.CellarerSetup{
		Ear: api.NameEar{Alike: texts("bp", "dt"), Mute: "h", Slips: 1}, Towns: texts("sion", "aosta"), Nights: 2, Rate: 7,
		Store: api.StoreBook{
			Goods: []api.StoreGood{
				{Have: to(50, 60), Each: to(1, 2), House: to(5, 6), Room: 80},
				{Have: at(20), Each: at(2), Spoil: to(0, 3), Room: 40},
			},
			Weeks: []api.Span{to(4, 6), to(5, 8), to(3, 9)},
			Mules: []api.StoreMule{{Week: to(1, 2), Good: 1, Load: to(20, 25)}},
		},
		Slope: api.SlopeBook{
			Slope: api.SlopeSlope{Snow: 4, Wind: 3, Sun: 2, Settle: 5, Hold: 60}, Start: to(20, 30),
			Hours: []api.SlopeHour{
				{New: to(3, 4), Wind: at(1)}, {New: to(2, 5), Wind: at(2)}, {Wind: to(0, 1), Sun: to(3, 4)}, {},
			},
		},
	}
	for _, c := range changes {
		c(&s)
	}
	return s
}

func towns(names ...string) change { return func(s *api.CellarerSetup) { s.Towns = names } }

func nights(n int) change { return func(s *api.CellarerSetup) { s.Nights = n } }

func rate(n int) change { return func(s *api.CellarerSetup) { s.Rate = n } }

func ear(e api.NameEar) change { return func(s *api.CellarerSetup) { s.Ear = e } }

func stored(b api.StoreBook) change { return func(s *api.CellarerSetup) { s.Store = b } }

// clerk is a new clerk of a setup that must be valid.
func clerk(t *testing.T, s api.CellarerSetup) *cellarer.Cellarer {
	t.Helper()
	c, e := cellarer.New(s)
	if c == nil || e != api.OK {
		t.Fatalf("New: %v, error %d", c, e)
	}
	return c
}

// codes are the errors that lines can have, by their names in the chapter.
func codes() map[string]api.Errno {
	return map[string]api.Errno{
		"ErrNil": api.ErrNil, "ErrLong": api.ErrLong, "ErrNone": api.ErrNone, "ErrForm": api.ErrForm, "ErrFull": api.ErrFull, "ErrRange": api.ErrRange,
		"ErrCellarerLine": api.ErrCellarerLine, "ErrCellarerUnknown": api.ErrCellarerUnknown, "ErrCellarerFalse": api.ErrCellarerFalse, "ErrCellarer": api.ErrCellarer,
	}
}

// written is an answer, or the name of an error.
func written(answer string, e api.Errno) string {
	for name, code := range codes() {
		if answer == "" && e == code {
			return name
		}
	}
	if e == api.OK {
		return answer
	}
	return fmt.Sprintf("%s, error %d", answer, e)
}

// told is the answer of a line, or the name of its error.
func told(c *cellarer.Cellarer, line string) string { return written(c.Do(line)) }

// play lets a clerk do lines, with a semicolon between each two, and compares the answers.
func play(t *testing.T, c *cellarer.Cellarer, lines, answers string) {
	t.Helper()
	do, must := strings.Split(lines, "; "), strings.Split(answers, "; ")
	if len(do) != len(must) {
		t.Fatalf("%d lines, %d answers: %s", len(do), len(must), lines)
	}
	for i, line := range do {
		if got := told(c, line); got != must[i] {
			t.Errorf("%.60q, of %.60q: %s, not %s", line, lines, got, must[i])
		}
	}
}

// done lets a clerk do lines that must have no error.
func done(t *testing.T, c *cellarer.Cellarer, lines ...string) {
	t.Helper()
	for _, line := range lines {
		if _, e := c.Do(line); e != api.OK {
			t.Fatalf("%q: error %d", line, e)
		}
	}
}

// wantClerk compares what a clerk has.
func wantClerk(t *testing.T, c *cellarer.Cellarer, night int, lines []api.HouseLine, paid []int, sights []api.SlopeSight, journal []string) {
	t.Helper()
	if c.Night() != night || !slices.Equal(c.Lines(), lines) || !slices.Equal(c.Paid(), paid) || !slices.Equal(c.Sights(), sights) {
		t.Errorf("%d, %v, %v, %v; not %d, %v, %v, %v", c.Night(), c.Lines(), c.Paid(), c.Sights(), night, lines, paid, sights)
	}
	file := ""
	for _, line := range journal {
		file += line + "\n"
	}
	if !slices.Equal(c.Journal(), journal) || c.File() != file {
		t.Errorf("%q, %q; not %q", c.Journal(), c.File(), journal)
	}
}

// All lines of the chapter's examples, the one after the other.
func TestExamples(t *testing.T) {
	c := clerk(t, setup())
	play(t, c, "sleep 0 sion peter; sleep 0 aosta hans; sleep 1 sion beter; sleep 1 aosta ans", "1 1; 2 2; 2 3; 2 4")
	play(t, c, "bowls 2 3; bowls 5 6; night 1", "2 3; ErrCellarerFalse; 1")
	play(t, c, "sleep 0 sion peter; sleep 1 sion peder; bowls 1 1", "1 1; 1 2; 1 1")
	play(t, c, "heads sion; total; beds; twice", "2 3; 3 4; 3; 4 5")
	play(t, c, "pay sion 10; pay aosta 10; say sion 2 2; say aosta 0 0", "4 11; -3 4; 2 2; ErrCellarerFalse")
	play(t, c, "asked; lost; share 100; owes aosta", "4 0; 0 4; 67 33; -3 4")
	play(t, c, "lasts 0; short; came 0 3 22; came 0 1 22; count 1 21; count 1 20", "2 3; 1 1; ErrCellarerFalse; 2 0; ErrCellarerFalse; 2 3")
	play(t, c, "left 0 0; left 0 2; half", "32 51; ErrNone; 0 1")
	play(t, c, "saw 1 39 60; fell 0 0 2000; free; cross 0 2; until 0; load 2", "39 60; ErrCellarerFalse; 0 1; 0; 1; 40 66")
	play(t, c, "today; paid; night 0; sleep 0 bern x", "1; 10 10; ErrRange; ErrCellarerUnknown")
}

// rightSetups are setups at the ends of what is valid.
func rightSetups() map[string]api.CellarerSetup {
	return map[string]api.CellarerSetup{
		"of the chapter":   setup(),
		"one town":         setup(towns("a")),
		"four towns":       setup(towns("a", "b", "aa", "ab")),
		"alike towns":      setup(towns("peter", "beter", "pehter")),
		"long names":       setup(towns("twelvebytes1", "z0123456789a")),
		"one night":        setup(nights(1)),
		"five nights":      setup(nights(5)),
		"nothing to pay":   setup(rate(0)),
		"much to pay":      setup(rate(100)),
		"an ear of nobody": setup(ear(api.NameEar{})),
		"a wide ear":       setup(ear(api.NameEar{Alike: texts("abcd", "ef", "gh", "ij"), Mute: "xyz", Slips: 3})),
		"no mules":         setup(func(s *api.CellarerSetup) { s.Store.Mules = nil }),
		"empty sights":     setup(func(s *api.CellarerSetup) { s.Slope.Sights = []api.SlopeSight{} }),
	}
}

// wrongTowns are changes after which the towns are not valid.
func wrongTowns() map[string]change {
	all := map[string]change{
		"no towns": towns(), "five towns": towns("a", "b", "c", "d", "e"), "one town twice": towns("sion", "aosta", "sion"), "two of one name": towns("a", "a"), "the last two of one name": towns("a", "b", "b"), "the second and the last of one name": towns("a", "b", "c", "b"),
	}
	for _, name := range texts("", "1sion", "Sion", "siOn", "si on", "sion ", "si\non", "sïon", "s-", "thirteenbytes", "\x00", "sion\xff", strings.Repeat("a", 50000)) {
		all[fmt.Sprintf("the first town %.15q", name)] = towns(name, "aosta")
		all[fmt.Sprintf("the last town %.15q", name)] = towns("sion", name)
	}
	return all
}

// wrongSetups are setups that are not valid.
func wrongSetups() map[string]api.CellarerSetup {
	all := map[string]api.CellarerSetup{"nothing": {}}
	for what, c := range wrongTowns() {
		all[what] = setup(c)
	}
	for _, n := range list(math.MinInt, -1, 0, 6, 7, math.MaxInt) {
		all[fmt.Sprint("nights ", n)] = setup(nights(n))
	}
	for _, n := range list(math.MinInt, -1, 101, math.MaxInt) {
		all[fmt.Sprint("rate ", n)] = setup(rate(n))
	}
	for what, e := range map[string]api.NameEar{
		"more slips": {Slips: 4}, "fewer slips": {Slips: -1}, "mute twice": {Mute: "hh"}, "one alike": {Alike: texts("b")}, "alike twice": {Alike: texts("bp", "pd")}, "large": {Mute: "H"},
	} {
		all["an ear: "+what] = setup(ear(e))
	}
	for what, c := range map[string]change{
		"no goods":           func(s *api.CellarerSetup) { s.Store.Goods = nil },
		"no weeks":           func(s *api.CellarerSetup) { s.Store.Weeks = nil },
		"a good that is not": func(s *api.CellarerSetup) { s.Store.Mules[0].Good = 2 },
		"no room":            func(s *api.CellarerSetup) { s.Store.Goods[1].Room = 19 },
		"no hours":           func(s *api.CellarerSetup) { s.Slope.Hours = nil },
		"holds nothing":      func(s *api.CellarerSetup) { s.Slope.Slope.Hold = 0 },
		"too much snow":      func(s *api.CellarerSetup) { s.Slope.Hours[3].New = to(9, 10) },
		"a sight":            func(s *api.CellarerSetup) { s.Slope.Sights = []api.SlopeSight{{Load: to(0, 2000)}} },
		"a wrong sight":      func(s *api.CellarerSetup) { s.Slope.Sights = []api.SlopeSight{{Hour: 9}} },
	} {
		all[what] = setup(c)
	}
	return all
}

// P11.1: a setup is valid just if all is as the chapter says; R8: what is not listed is not valid.
func TestSetups(t *testing.T) {
	for what, s := range rightSetups() {
		if e := cellarer.Check(s); e != api.OK {
			t.Errorf("%s: error %d", what, e)
		}
		c := clerk(t, s)
		wantClerk(t, c, 0, nil, make([]int, len(s.Towns)), nil, nil)
		play(t, c, "today; total; beds; twice; share 1", "0; 0 0; 0; -; ErrNone")
	}
	for what, s := range wrongSetups() {
		c, e := cellarer.New(s)
		if code := cellarer.Check(s); code != api.ErrCellarer || c != nil || e != api.ErrCellarer {
			t.Errorf("%s: %d; %v, error %d", what, code, c, e)
		}
	}
}

// P11.2: lines that have the form, though they may have another error.
func TestLinesThatHaveTheForm(t *testing.T) {
	long := strings.Repeat("a", 113)
	for line, must := range map[string]string{
		"heads a" + long: "ErrCellarerUnknown", "night 9999999": "ErrRange", "night 0": "0", "bowls 0 99": "0 0",
		"sleep 0 sion a": "1 1", "sleep 1 sion twelvebytes1": "1 1", "sleep 0 sion z0a9": "1 1",
		"heads ?": "ErrCellarerUnknown", "heads \t": "ErrCellarerUnknown", "heads \xff\x00": "ErrCellarerUnknown", "heads SION": "ErrCellarerUnknown", "heads 7": "ErrCellarerUnknown",
		"pay 01 9999999": "ErrCellarerUnknown", "owes sion\r": "ErrCellarerUnknown", "say é 0 0": "ErrCellarerUnknown", "sleep 0 today x": "ErrCellarerUnknown",
		"came 9999999 9999999 9999999": "ErrRange", "share 1000000": "ErrNone", "cross 0 12": "ErrNone",
	} {
		if got := told(clerk(t, setup()), line); got != must {
			t.Errorf("%q: %s, not %s", line, got, must)
		}
	}
}

// goodLines are lines that have the form, one of each first token, of a town that can be unknown.
func goodLines() []string {
	return texts("night 1", "sleep 0 sion x", "bowls 0 9", "pay sion 1", "say sion 0 9", "came 0 1 20", "count 0 50", "saw 0 0 99", "fell 1 0 99",
		"today", "paid", "heads sion", "owes sion", "asked", "lost", "share 1", "total", "beds", "twice", "left 0 1", "lasts 0", "short", "half", "load 0", "until 0", "free", "cross 0 1")
}

// formless are texts that come from a line that has the form, and have none.
func formless(line string) []string {
	tokens := strings.Split(line, " ")
	word, rest := tokens[0], strings.TrimPrefix(line, tokens[0])
	list := texts(" "+line, line+" ", line+" 0", line+" x", line+"\n", "\n"+line, strings.ToUpper(word)+rest, word+"s"+rest, word[1:]+rest, "x "+line)
	list = append(list, line+strings.Repeat(" ", 121-len(line)), strings.Replace(line, " ", "  ", 1)+" ", strings.ReplaceAll(line, " ", "\t")+" ")
	for i := range tokens {
		list = append(list, strings.Join(slices.Delete(slices.Clone(tokens), i, i+1), " "))
		for _, token := range texts("", "0\n", "-1", "+1", "01", "00", "1.0", "1e1", "0x1", "1_0", "10000000", "0000000", "٣", "１", "99999999999999999999", "N") {
			changed := slices.Clone(tokens)
			changed[i] = token
			// What is no number can be a town, unless it is empty, or has a line feed.
			if tokens[i] != "sion" || token == "" || token == "0\n" {
				list = append(list, strings.Join(changed, " "))
			}
		}
	}
	return list
}

// P11.2, R9: a text that does not have the form is ErrCellarerLine, whatever else is wrong with it.
func TestTextsWithoutTheForm(t *testing.T) {
	c, full := clerk(t, setup()), clerk(t, setup())
	for range 200 {
		done(t, full, "night 0")
	}
	wrong := texts("", " ", "\n", "\x00", "x", "night", "sleep", "guests", "night x", "night sion", "heads be\nrn", "heads "+strings.Repeat("a", 115), strings.Repeat("night 0 ", 9999),
		"sleep 0 sion Peter", "sleep 0 sion 1x", "sleep 0 sion thirteenbytes", "sleep 0 sion petr\xe9", "sleep 0 sion x-", "sleep 2 bern X", "pay bern 00", "pay sion sion", "came 0 0", "came 0 0 0 0", "twice 0", "half sion")
	for _, line := range goodLines() {
		wrong = append(wrong, formless(line)...)
	}
	for _, text := range wrong {
		for _, x := range []*cellarer.Cellarer{c, full} {
			if got := told(x, text); got != "ErrCellarerLine" {
				t.Errorf("%.130q: %s", text, got)
			}
		}
	}
	wantClerk(t, c, 0, nil, list(0, 0), nil, nil)
}

// P11.2, R7: each number is in its bounds, both ends included, or ErrRange; each of these lines is the first one of a clerk.
func TestBounds(t *testing.T) {
	for line, must := range map[string]string{
		"night 0": "0", "night 1": "1", "night 2": "ErrRange",
		"sleep 0 sion x": "1 1", "sleep 1 sion x": "1 1", "sleep 2 sion x": "ErrRange",
		"bowls 0 0": "0 0", "bowls 0 99": "0 0", "bowls 0 100": "ErrRange", "bowls 1 99": "ErrCellarerFalse", "bowls 99 99": "ErrCellarerFalse", "bowls 100 100": "ErrRange", "bowls 1 0": "ErrRange", "bowls 99 98": "ErrRange",
		"pay sion 0": "ErrRange", "pay sion 1": "-1 -1", "pay aosta 100000": "-100000 -100000", "pay sion 100001": "ErrRange",
		"say sion 0 10": "0 0", "say sion 0 0": "0 0", "say sion 0 11": "ErrRange", "say aosta 1 10": "ErrCellarerFalse", "say aosta 10 10": "ErrCellarerFalse", "say sion 11 11": "ErrRange", "say sion 1 0": "ErrRange",
		"came 0 1 20": "2 0", "came 0 2 25": "1 1", "came 0 0 20": "ErrCellarerFalse", "came 0 3 25": "ErrCellarerFalse", "came 0 1 19": "ErrCellarerFalse", "came 0 2 26": "ErrCellarerFalse", "came 0 9 20": "ErrCellarerFalse", "came 0 10 20": "ErrRange", "came 0 1 500": "ErrCellarerFalse", "came 0 1 501": "ErrRange", "came 1 1 20": "ErrRange",
		"count 0 50": "2 3", "count 0 60": "2 3", "count 0 49": "ErrCellarerFalse", "count 0 61": "ErrCellarerFalse", "count 1 20": "1 3", "count 0 999": "ErrCellarerFalse", "count 0 1000": "ErrRange", "count 2 20": "ErrRange",
		"saw 0 0 2000": "30 44", "saw 3 0 2000": "0 66", "saw 4 0 2000": "ErrRange", "saw 0 0 2001": "ErrRange", "saw 0 30 30": "30 30", "saw 0 44 44": "44 44", "saw 0 29 29": "ErrCellarerFalse", "saw 0 45 2000": "ErrCellarerFalse", "saw 0 2000 2000": "ErrCellarerFalse", "saw 0 2001 2001": "ErrRange", "saw 0 31 30": "ErrRange",
		"fell 1 0 2000": "61 65", "fell 1 65 65": "65 65", "fell 1 0 60": "ErrCellarerFalse", "fell 4 0 2000": "ErrRange", "fell 1 0 2001": "ErrRange", "fell 1 62 61": "ErrRange", "fell 0 0 2000": "ErrCellarerFalse", "fell 3 0 2000": "61 66",
		"share 0": "ErrNone", "share 1000000": "ErrNone", "share 1000001": "ErrRange",
		"left 0 0": "32 51", "left 1 0": "5 12", "left 2 0": "ErrRange", "left 0 1": "10 41", "left 0 2": "ErrNone", "left 0 3": "ErrRange", "left 1 1": "ErrNone",
		"lasts 0": "2 3", "lasts 1": "1 3", "lasts 2": "ErrRange",
		"load 0": "30 44", "load 3": "0 66", "load 4": "ErrRange", "until 0": "0", "until 1": "ErrNone", "until 3": "ErrNone", "until 4": "ErrRange",
		"cross 0 1": "0", "cross 0 2": "ErrNone", "cross 0 12": "ErrNone", "cross 0 13": "ErrRange", "cross 0 0": "ErrRange", "cross 3 1": "ErrNone", "cross 4 1": "ErrRange",
	} {
		if got := told(clerk(t, setup()), line); got != must {
			t.Errorf("%s: %s, not %s", line, got, must)
		}
	}
}

// P11.2: bounds that lines before have moved.
func TestBoundsThatMove(t *testing.T) {
	for lines, must := range map[string]string{
		"night 1; night 0; night 1; today":                                      "1; ErrRange; 1; 1",
		"pay sion 99999; pay sion 2; pay sion 1; pay sion 1; paid":              "-99999 -99999; ErrRange; -100000 -100000; ErrRange; 100000 0",
		"pay sion 100000; pay aosta 100000; pay aosta 1; paid":                  "-100000 -100000; -100000 -100000; ErrRange; 100000 100000",
		"came 0 1 20; came 0 2 20; came 0 1 21; came 0 1 20":                    "2 0; ErrCellarerFalse; ErrCellarerFalse; 2 0",
		"came 0 2 25; came 0 1 25; came 0 2 24; short":                          "1 1; ErrCellarerFalse; ErrCellarerFalse; 1 1",
		"count 0 55; count 0 50; count 0 60; count 0 55; left 0 0":              "2 3; ErrCellarerFalse; ErrCellarerFalse; 2 3; 37 46",
		"bowls 0 0; sleep 0 sion x; bowls 1 1; bowls 0 5; sleep 1 sion y":       "0 0; ErrCellarerFalse; ErrCellarerFalse; 0 0; 1 1",
		"sleep 0 sion ann; bowls 1 1; sleep 1 sion mia; sleep 1 sion ann":       "1 1; 1 1; ErrCellarerFalse; 1 1",
		"sleep 0 sion ann; bowls 1 1; night 1; sleep 1 sion mia; bowls 2 3":     "1 1; 1 1; 1; 1 1; ErrCellarerFalse",
		"say sion 0 1; sleep 0 sion a; night 1; sleep 0 sion a; say sion 2 10":  "0 0; 1 1; 1; ErrCellarerFalse; ErrCellarerFalse",
		"sleep 0 sion a; say sion 1 1; say aosta 0 0; say sion 0 3; heads sion": "1 1; 1 1; 0 0; 1 1; 1 1",
		"saw 0 30 40; saw 0 41 44; fell 1 0 2000; saw 0 35 44; load 0":          "30 40; ErrCellarerFalse; 61 61; 40 40; 40 40",
	} {
		play(t, clerk(t, setup()), lines, must)
	}
}

// full is a clerk whose lists have no room for a line, a sight, or both.
func full(t *testing.T, lines, sights int) *cellarer.Cellarer {
	t.Helper()
	c := clerk(t, setup())
	for i := range lines {
		done(t, c, fmt.Sprintf("sleep %d sion a%d", i%2, i*1111))
	}
	for range sights {
		done(t, c, "saw 0 0 2000")
	}
	return c
}

// P11.2, R1: of several errors of a line the first one is told, in the order in which the chapter lists them.
func TestOrderOfErrors(t *testing.T) {
	for line, must := range map[string]string{
		"night 2":        "ErrRange",
		"sleep 2 bern x": "ErrCellarerUnknown", "sleep 0 bern x": "ErrCellarerUnknown", "sleep 2 sion x": "ErrRange", "sleep 0 sion x": "ErrFull",
		"bowls 99 100": "ErrRange", "bowls 99 98": "ErrRange", "bowls 99 99": "ErrCellarerFalse",
		"pay bern 0": "ErrCellarerUnknown", "pay bern 100001": "ErrCellarerUnknown", "pay sion 0": "ErrRange",
		"say bern 3 2": "ErrCellarerUnknown", "say bern 11 11": "ErrCellarerUnknown", "say sion 0 11": "ErrRange", "say sion 3 2": "ErrRange", "say sion 0 0": "ErrCellarerFalse",
		"came 1 3 19": "ErrRange", "came 0 10 19": "ErrRange", "came 0 3 501": "ErrRange", "came 0 3 19": "ErrCellarerFalse", "came 9 9 9": "ErrRange",
		"count 2 0": "ErrRange", "count 0 1000": "ErrRange", "count 0 0": "ErrCellarerFalse",
		"saw 4 0 0": "ErrRange", "saw 0 1 0": "ErrRange", "saw 0 0 2001": "ErrRange", "saw 0 0 0": "ErrFull",
		"fell 4 0 0": "ErrRange", "fell 0 1 0": "ErrRange", "fell 0 0 2001": "ErrRange", "fell 0 0 2000": "ErrFull",
		"heads bern": "ErrCellarerUnknown", "owes bern": "ErrCellarerUnknown",
		"left 2 2": "ErrRange", "left 0 3": "ErrRange", "left 0 2": "ErrNone", "lasts 2": "ErrRange",
		"until 4": "ErrRange", "until 1": "ErrNone", "cross 4 12": "ErrRange", "cross 1 0": "ErrRange", "cross 1 13": "ErrRange", "cross 1 12": "ErrNone",
	} {
		if got := told(full(t, 10, 6), line); got != must {
			t.Errorf("%s: %s, not %s", line, got, must)
		}
	}
	if got := told(clerk(t, setup()), "share 1000001"); got != "ErrRange" {
		t.Errorf("a bill that is too great: %s", got)
	}
}

// P11.2, R7: there is room for 10 lines, and for 6 sights.
func TestFullLists(t *testing.T) {
	play(t, full(t, 9, 5), "sleep 0 sion x; sleep 1 sion x; saw 0 30 44; saw 0 30 44; fell 1 0 2000; total", "10 10; ErrFull; 30 44; ErrFull; ErrFull; 10 10")
	c := full(t, 10, 0)
	play(t, c, "night 1; sleep 0 aosta x; bowls 0 0; today; twice; heads sion; heads aosta; asked", "1; ErrFull; 0 0; 1; -; 10 10; 0 0; 70 0")
	if len(c.Lines()) != 10 || len(c.Journal()) != 12 {
		t.Errorf("%v, %q", c.Lines(), c.Journal())
	}
}

// P11.2: with 200 lines in the journal each line that changes something is ErrFull, whatever else is wrong with it; those that ask are answered.
func TestFullJournal(t *testing.T) {
	c := clerk(t, setup())
	for range 199 {
		done(t, c, "night 0")
	}
	play(t, c, "night 2; pay sion 7; pay sion 7; paid", "ErrRange; -7 -7; ErrFull; 7 0")
	for _, line := range texts("night 0", "night 2", "sleep 0 sion x", "sleep 2 bern x", "bowls 0 99", "bowls 99 99", "pay bern 0", "say sion 0 10", "say bern 3 2", "came 0 1 20", "came 9 9 9", "count 0 50", "count 9 9", "saw 0 0 2000", "fell 9 2 1") {
		if got := told(c, line); got != "ErrFull" {
			t.Errorf("%s: %s", line, got)
		}
	}
	play(t, c, "night x; today; heads bern; lasts 2; until 1; owes sion; total", "ErrCellarerLine; 0; ErrCellarerUnknown; ErrRange; ErrNone; -7 -7; 0 0")
	wantClerk(t, c, 0, nil, list(7, 0), nil, append(slices.Repeat(texts("night 0"), 199), "pay sion 7"))
}

// P11.2: what is told of nights and of money, of one number, of several ones, and of none.
func TestNightsAndMoney(t *testing.T) {
	c := clerk(t, setup())
	play(t, c, "today; paid; total; beds; twice; asked; lost; share 0", "0; 0 0; 0 0; 0; -; 0 0; 0 0; ErrNone")
	play(t, c, "sleep 0 sion ann; sleep 1 sion ann; twice; bowls 1 1; twice; bowls 2 2; twice", "1 1; 1 2; -; 1 1; 0 1; 2 2; -")
	play(t, c, "sleep 0 aosta hans; sleep 1 aosta ans; twice; bowls 1 1; bowls 1 4; twice", "2 2; 2 2; 0 1 2 3; ErrCellarerFalse; 2 4; -")
	play(t, c, "bowls 2 2; twice; beds; sleep 0 sion mia", "2 2; 0 1 2 3; 2; ErrCellarerFalse")
	play(t, c, "heads sion; heads aosta; owes sion; lost; share 7; share 1000000", "1 1; 1 1; 7 7; 0 0; 4 3; 500000 500000")
	play(t, c, "night 1; sleep 0 sion mia; sleep 1 sion mia; heads sion; owes sion; asked; lost", "1; 1 1; 1 2; 2 3; 14 21; 14 7; 0 7")
	play(t, c, "pay sion 15; owes sion; asked; lost; pay aosta 100; owes aosta; asked; lost; paid", "-1 6; -1 6; 0 7; 0 6; -93 -93; -93 -93; 0 0; 0 6; 15 100")
	play(t, c, "say sion 3 9; heads sion; twice; beds; total", "3 3; 3 3; 0 1 2 3; 2; 3 4")
}

// P11.2: towns are those of the setup, in their order, by their names alone.
func TestNamesOfTowns(t *testing.T) {
	c := clerk(t, setup(towns("peter", "beter", "today", "x9"), rate(10), nights(5)))
	play(t, c, "sleep 0 beter a; sleep 0 today b; sleep 1 x9 cd; sleep 0 x9 ef; night 4; sleep 1 x9 g", "1 1; 2 2; 3 3; 4 4; 4; 1 1")
	play(t, c, "heads peter; heads beter; heads today; heads x9; heads x; heads pehter; asked; share 9", "0 0; 1 1; 1 1; 3 3; ErrCellarerUnknown; ErrCellarerUnknown; 0 10 10 30; 0 2 2 5")
	play(t, c, "pay x9 5; pay peter 1; paid; owes x9; say beter 1 1; say today 1 2; say x9 2 4", "25 25; -1 -1; 1 0 0 5; 25 25; 1 1; 1 1; 3 3")
}

// P11.2: what is told of the store.
func TestGoods(t *testing.T) {
	lasting := api.StoreBook{Goods: []api.StoreGood{{Have: to(9, 20), Each: at(1), Room: 20}}, Weeks: []api.Span{to(0, 9)}}
	play(t, clerk(t, setup(stored(lasting))), "short; half; left 0 0; lasts 0; left 0 1; count 0 9; left 0 0; came 0 0 0", "-; -; 0 20; 1 1; ErrRange; 1 1; 0 9; ErrRange")
	scarce := api.StoreBook{Goods: []api.StoreGood{{Have: to(3, 20), Each: at(1), Room: 20}}, Weeks: []api.Span{to(0, 9)}}
	play(t, clerk(t, setup(stored(scarce))), "short; half; left 0 0; count 0 9; short; half", "0 0; ErrNone; ErrNone; 1 1; -; -")
	// What a mule brings is for all that it can bring, and when; two mules have nothing to do with each other.
	fed := api.StoreBook{
		Goods: []api.StoreGood{{Have: at(5), Each: at(1), Room: 90}, {Have: at(0), Room: 9}}, Weeks: []api.Span{at(5), at(5)},
		Mules: []api.StoreMule{{Week: to(0, 2), Load: to(1, 9)}, {Week: to(6, 9), Good: 1, Load: to(0, 500)}},
	}
	play(t, clerk(t, setup(stored(fed))), "short; came 1 9 500; came 0 0 5; lasts 0; left 0 1", "1 0; 1 0; -; 2 2; 0 0")
	play(t, clerk(t, setup(stored(fed))), "came 0 1 4; lasts 0; came 0 0 4; came 1 6 0; came 1 7 0; left 1 1", "1 0; 1 1; ErrCellarerFalse; 1 0; ErrCellarerFalse; 0 0")
}

// P11.2: what is told of the slope.
func TestHours(t *testing.T) {
	c := clerk(t, setup())
	play(t, c, "load 1; load 2; free; until 0; cross 0 1; cross 0 2; cross 1 1", "39 65; 6 71; 0; 0; 0; ErrNone; ErrNone")
	play(t, c, "fell 1 0 2000; load 0; free; until 0; until 2; cross 0 1; cross 0 2; cross 1 2; cross 3 1; cross 3 2", "61 65; 40 44; 0 2 3; 0; 3; 0; 2; 2; 3; ErrNone")
	play(t, c, "saw 0 44 44; load 1; saw 1 0 2000; fell 2 0 2000; saw 2 6 6; load 2", "44 44; 61 65; ErrCellarerFalse; ErrCellarerFalse; 6 6; 6 6")
	play(t, clerk(t, setup(func(s *api.CellarerSetup) { s.Slope.Slope.Hold = 1 })), "free; until 0; cross 0 1", "-; ErrNone; ErrNone")
}

// P11.3, R2: what the clerk has, behind lines of all kinds, with errors between them.
func TestWhatTheClerkHas(t *testing.T) {
	c := clerk(t, setup())
	play(t, c, "sleep 1 aosta hans; sleep 9 aosta hans; pay sion 3; night 1; night 0; sleep 0 sion x; fell 1 60 70; saw 9 0 0", "1 1; ErrRange; -3 -3; 1; ErrRange; 1 1; 61 65; ErrRange")
	play(t, c, "bowls 1 2; pay sion 4; came 0 1 22; count 0 51; say sion 1 2; saw 0 0 2000; total", "1 1; 0 0; 2 0; 2 3; 1 1; 40 44; 2 2")
	wantClerk(t, c, 1,
		[]api.HouseLine{{Brother: 1, Town: 1, Heard: "hans"}, {Night: 1, Heard: "x"}}, list(7, 0),
		[]api.SlopeSight{{Hour: 1, Fell: true, Load: to(60, 70)}, {Load: to(0, 2000)}},
		texts("sleep 1 aosta hans", "pay sion 3", "night 1", "sleep 0 sion x", "fell 1 60 70", "bowls 1 2", "pay sion 4", "came 0 1 22", "count 0 51", "say sion 1 2", "saw 0 0 2000"))
}

// P11.3, R3: a nil clerk, and one that was not made, do and have nothing.
func TestNobody(t *testing.T) {
	for what, c := range map[string]*cellarer.Cellarer{"nil": nil, "new": new(cellarer.Cellarer)} {
		for _, line := range append(goodLines(), "", "x", "night 2", strings.Repeat("a", 200)) {
			if got := told(c, line); got != "ErrNil" {
				t.Errorf("%s: %q: %s", what, line, got)
			}
		}
		wantClerk(t, c, 0, nil, nil, nil, nil)
	}
}

// open opens a file; it returns the number of lines, and the name of the error.
func open(t *testing.T, s api.CellarerSetup, file string) (*cellarer.Cellarer, string) {
	t.Helper()
	c, at, e := cellarer.Open(s, file)
	if (c == nil) != (e != api.OK) {
		t.Errorf("%.60q: %v, error %d", file, c, e)
	}
	return c, fmt.Sprint(at, " ", written("", e))
}

// P11.4: a file of one line for each word that changes something is the clerk again.
func TestFiles(t *testing.T) {
	lines := texts("sleep 0 sion peter", "sleep 1 sion beter", "bowls 1 1", "pay sion 3", "say sion 1 4", "came 0 1 22", "count 0 55", "saw 1 39 60", "night 1", "sleep 1 aosta hans", "pay sion 4", "fell 2 0 2000")
	file := strings.Join(lines, "\n") + "\n"
	c, told := open(t, setup(), file)
	if told != "12 " {
		t.Fatal(told)
	}
	wantClerk(t, c, 1,
		[]api.HouseLine{{Heard: "peter"}, {Brother: 1, Heard: "beter"}, {Brother: 1, Night: 1, Town: 1, Heard: "hans"}}, list(7, 0),
		[]api.SlopeSight{{Hour: 1, Load: to(39, 60)}, {Hour: 2, Fell: true, Load: to(0, 2000)}}, lines)
	play(t, c, "twice; heads aosta; owes sion; left 0 0; short; load 2; today; night 0; bowls 1 1", "0 1; 1 1; 0 0; 37 46; 2 0; 61 66; 1; ErrRange; 1 1")
	c, told = open(t, setup(), "")
	if told != "0 " {
		t.Fatal(told)
	}
	wantClerk(t, c, 0, nil, list(0, 0), nil, nil)
	play(t, c, "sleep 0 sion x", "1 1")
}

// P11.4, R1, R2: files that cannot be opened, the number of lines before the first one that is wrong, and its error.
func TestWrongFiles(t *testing.T) {
	many := strings.Repeat("night 0\n", 200)
	for file, must := range map[string]string{
		"x": "0 ErrForm", "night 1": "0 ErrForm", "night 1\nnight 1": "0 ErrForm", "x\ny": "0 ErrForm", "night 1\n ": "0 ErrForm", "night 9\nnight 1\r": "0 ErrForm",
		"\n": "0 ErrCellarerLine", "\n\n": "0 ErrCellarerLine", "night 1\n\n": "1 ErrCellarerLine", "night 1\n\nnight 1\n": "1 ErrCellarerLine", "night 1\r\n": "0 ErrCellarerLine",
		"night 1\ntoday\n": "1 ErrCellarerLine", "heads bern\n": "0 ErrCellarerLine", "lasts 2\n": "0 ErrCellarerLine", "half 1\n": "0 ErrCellarerLine", "night 0\nnight 0\nfree\nnight 9\n": "2 ErrCellarerLine",
		"night 1\nnight 0\n": "1 ErrRange", "pay bern 5\n": "0 ErrCellarerUnknown", "bowls 1 2\n": "0 ErrCellarerFalse", "pay sion 5\nnight 2\ntoday\n": "1 ErrRange",
		many + "night 1\n": "200 ErrFull", many + "pay bern 0\n": "200 ErrFull", many + "today\n": "200 ErrCellarerLine", many + "x\n": "200 ErrCellarerLine", many[8:] + "night 9\n": "199 ErrRange", many + many: "200 ErrFull",
		strings.Repeat("x", 60000): "0 ErrForm", strings.Repeat("x", 60001): "0 ErrLong", strings.Repeat("\n", 60001): "0 ErrLong", strings.Repeat("\n", 60000): "0 ErrCellarerLine",
		"night 0\n" + strings.Repeat("x", 59991) + "\n": "1 ErrCellarerLine", "night 0\n" + strings.Repeat("x", 59992) + "\n": "0 ErrLong",
	} {
		if _, told := open(t, setup(), file); told != must {
			t.Errorf("%.60q: %s, not %s", file, told, must)
		}
		for what, s := range wrongSetups() {
			if _, told := open(t, s, file); told != "0 ErrCellarer" {
				t.Errorf("%s, %.60q: %s", what, file, told)
			}
		}
	}
	if c, told := open(t, setup(), many); told != "200 " || c.File() != many {
		t.Errorf("200 lines: %s", told)
	}
	if c, told := open(t, setup(), many[8:]); told != "199 " || c.File() != many[8:] {
		t.Errorf("199 lines: %s", told)
	}
}

// R3: between a nil list and an empty one there is no difference.
func TestNilAndEmpty(t *testing.T) {
	bare := setup(func(s *api.CellarerSetup) { s.Store.Mules, s.Slope.Sights, s.Ear.Alike = nil, nil, nil })
	empty := setup(func(s *api.CellarerSetup) {
		s.Store.Mules, s.Slope.Sights, s.Ear.Alike = []api.StoreMule{}, []api.SlopeSight{}, texts()
	})
	for _, line := range append(goodLines(), "sleep 0 sion peter", "sleep 1 sion pexer", "saw 0 0 2000") {
		if one, other := told(clerk(t, bare), line), told(clerk(t, empty), line); one != other {
			t.Errorf("%s: %s, %s", line, one, other)
		}
	}
	bare.Store.Goods, empty.Store.Goods = nil, []api.StoreGood{}
	if one, other := cellarer.Check(bare), cellarer.Check(empty); one != api.ErrCellarer || other != one {
		t.Errorf("%d, %d", one, other)
	}
}
