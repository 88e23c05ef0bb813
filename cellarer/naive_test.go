package cellarer_test

import (
	"fmt"
	"math/rand"
	"regexp"
	"slices"
	"strconv"
	"strings"
	"sync"

	"clavendier/api"
	"clavendier/house"
	"clavendier/slope"
	"clavendier/store"
	"clavendier/town"
)

// This file does what the document promises in the plainest way: the form of each line is a regular expression, the clerk keeps the books that the layers below calculate with, takes down each line in a copy of them, and asks the layers of the copy.

// naiveForms are the forms of all lines, as the chapter writes them: those that change something, and those that ask.
func naiveForms() (changes, asks []string) {
	changes = texts("night N", "sleep N T X", "bowls N N", "pay T N", "say T N N", "came N N N", "count N N", "saw N N N", "fell N N N")
	asks = texts("today", "paid", "heads T", "owes T", "asked", "lost", "share N", "total", "beds", "twice", "left N N", "lasts N", "short", "half", "load N", "until N", "free", "cross N N")
	return changes, asks
}

// naiveExpression is fitted by all lines of some forms.
func naiveExpression(forms []string) *regexp.Regexp {
	kinds := strings.NewReplacer("N", "(0|[1-9][0-9]{0,6})", "T", "[^ \n]+", "X", "[a-z][a-z0-9]{0,11}")
	return regexp.MustCompile(`\A(` + kinds.Replace(strings.Join(forms, "|")) + `)\z`)
}

// naiveExpressions are fitted by the lines that change something, and by those that ask.
var naiveExpressions = sync.OnceValues(func() (changes, asks *regexp.Regexp) {
	some, others := naiveForms()
	return naiveExpression(some), naiveExpression(others)
})

// naive is a clerk: the books of the layers, the names of all towns, the present night, and the journal; and which lines it is often given.
type naive struct {
	book    api.TownBook
	names   []string
	store   api.StoreBook
	slope   api.SlopeBook
	night   int
	journal []string
	often   int
}

func newNaive(s api.CellarerSetup) *naive {
	n := &naive{names: slices.Clone(s.Towns), store: s.Store, slope: s.Slope}
	n.book = api.TownBook{House: api.HouseBook{Ear: s.Ear, Towns: len(s.Towns)}, Rate: s.Rate, Paid: make([]int, len(s.Towns))}
	for range s.Nights {
		n.book.House.Bowls = append(n.book.House.Bowls, to(0, 99))
	}
	for range s.Towns {
		n.book.Says = append(n.book.Says, to(0, 10))
	}
	return n.copied()
}

// copied is a clerk of which all lists are new.
func (n *naive) copied() *naive {
	c := *n
	c.book.House.Lines, c.book.House.Bowls = slices.Clone(n.book.House.Lines), slices.Clone(n.book.House.Bowls)
	c.book.Paid, c.book.Says = slices.Clone(n.book.Paid), slices.Clone(n.book.Says)
	c.store.Goods, c.store.Mules = slices.Clone(n.store.Goods), slices.Clone(n.store.Mules)
	c.slope.Sights, c.journal = slices.Clone(n.slope.Sights), slices.Clone(n.journal)
	return &c
}

// do does a line.
func (n *naive) do(line string) (string, api.Errno) {
	changes, asks := naiveExpressions()
	tokens := strings.Split(line, " ")
	switch {
	case len(line) > 120:
		return "", api.ErrCellarerLine
	case asks.MatchString(line):
		return n.ask(tokens[0], tokens[1:])
	case !changes.MatchString(line):
		return "", api.ErrCellarerLine
	case len(n.journal) == 200:
		return "", api.ErrFull
	}
	next := n.copied()
	if e := next.change(tokens[0], tokens[1:]); e != api.OK {
		return "", e
	}
	next.journal = append(next.journal, line)
	*n = *next
	return n.behind(tokens[0], tokens[1:])
}

// num is the number that a token is, or -1.
func num(token string) int {
	n, err := strconv.Atoi(token)
	if err != nil {
		return -1
	}
	return n
}

// change takes down a line that changes something.
func (n *naive) change(word string, p []string) api.Errno {
	switch word {
	case "night":
		if num(p[0]) < n.night || num(p[0]) >= len(n.book.House.Bowls) {
			return api.ErrRange
		}
		n.night = num(p[0])
		return api.OK
	case "bowls":
		if num(p[0]) > num(p[1]) || num(p[1]) > 99 {
			return api.ErrRange
		}
		n.book.House.Bowls[n.night] = to(num(p[0]), num(p[1]))
		return n.right()
	case "came":
		return n.came(num(p[0]), num(p[1]), num(p[2]))
	case "count":
		return n.count(num(p[0]), num(p[1]))
	case "saw", "fell":
		return n.saw(num(p[0]), num(p[1]), num(p[2]), word == "fell")
	}
	name := p[0]
	if word == "sleep" {
		name = p[1]
	}
	t := slices.Index(n.names, name)
	if t < 0 {
		return api.ErrCellarerUnknown
	}
	switch word {
	case "sleep":
		return n.sleep(num(p[0]), t, p[2])
	case "pay":
		if num(p[1]) < 1 || n.book.Paid[t]+num(p[1]) > 100000 {
			return api.ErrRange
		}
		n.book.Paid[t] += num(p[1])
		return api.OK
	}
	if num(p[1]) > num(p[2]) || num(p[2]) > 10 {
		return api.ErrRange
	}
	n.book.Says[t] = to(num(p[1]), num(p[2]))
	return n.right()
}

// right returns the error of a book of the towns that cannot be right.
func (n *naive) right() api.Errno {
	if is, e := town.Right(n.book); !is || e != api.OK {
		return api.ErrCellarerFalse
	}
	return api.OK
}

func (n *naive) sleep(brother, t int, heard string) api.Errno {
	if brother > 1 {
		return api.ErrRange
	}
	if len(n.book.House.Lines) == 10 {
		return api.ErrFull
	}
	n.book.House.Lines = append(n.book.House.Lines, api.HouseLine{Brother: brother, Night: n.night, Town: t, Heard: heard})
	return n.right()
}

// contains reports whether a number is one of a span.
func contains(s api.Span, n int) bool { return s.Low <= n && n <= s.High }

func (n *naive) came(mule, week, load int) api.Errno {
	if mule >= len(n.store.Mules) || week > 9 || load > 500 {
		return api.ErrRange
	}
	m := &n.store.Mules[mule]
	if !contains(m.Week, week) || !contains(m.Load, load) {
		return api.ErrCellarerFalse
	}
	m.Week, m.Load = at(week), at(load)
	return api.OK
}

func (n *naive) count(good, have int) api.Errno {
	if good >= len(n.store.Goods) || have > 999 {
		return api.ErrRange
	}
	g := &n.store.Goods[good]
	if !contains(g.Have, have) {
		return api.ErrCellarerFalse
	}
	g.Have = at(have)
	return api.OK
}

func (n *naive) saw(hour, low, high int, fell bool) api.Errno {
	if hour >= len(n.slope.Hours) || low > high || high > 2000 {
		return api.ErrRange
	}
	if len(n.slope.Sights) == 6 {
		return api.ErrFull
	}
	n.slope.Sights = append(n.slope.Sights, api.SlopeSight{Hour: hour, Fell: fell, Load: to(low, high)})
	if is, e := slope.Right(n.slope); !is || e != api.OK {
		return api.ErrCellarerFalse
	}
	return api.OK
}

// behind is the answer of a line that changed something.
func (n *naive) behind(word string, p []string) (string, api.Errno) {
	switch word {
	case "sleep", "bowls":
		guests, e := house.Guests(n.book.House, n.night)
		return spanText(guests), e
	case "night":
		return n.ask("today", nil)
	case "pay":
		return n.ask("owes", p)
	case "say":
		return n.ask("heads", p)
	case "came":
		return n.ask("short", nil)
	case "count":
		return n.ask("lasts", p)
	}
	return n.ask("load", p)
}

// numbersText writes numbers with blanks between them, or a line if there are none.
func numbersText(list []int) string {
	if len(list) == 0 {
		return "-"
	}
	return strings.Trim(fmt.Sprint(list), "[]")
}

func spanText(s api.Span) string { return numbersText(list(s.Low, s.High)) }

// orNone is an answer, unless the layer has an error: then there is nothing of the kind.
func orNone(answer string, e api.Errno) (string, api.Errno) {
	if e != api.OK {
		return "", api.ErrNone
	}
	return answer, api.OK
}

// ask answers a line that asks.
func (n *naive) ask(word string, p []string) (string, api.Errno) {
	switch word {
	case "today":
		return fmt.Sprint(n.night), api.OK
	case "paid":
		return numbersText(n.book.Paid), api.OK
	case "heads", "owes":
		return n.askOfTown(word, slices.Index(n.names, p[0]))
	case "left", "lasts", "short", "half":
		return n.askStore(word, p)
	case "load", "until", "free", "cross":
		return n.askSlope(word, p)
	case "share":
		if num(p[0]) > 1000000 {
			return "", api.ErrRange
		}
		parts, e := town.Share(n.book, num(p[0]))
		return orNone(numbersText(parts), e)
	}
	return n.askBook(word)
}

func (n *naive) askOfTown(word string, t int) (string, api.Errno) {
	if t < 0 {
		return "", api.ErrCellarerUnknown
	}
	if word == "heads" {
		s, e := town.Nights(n.book, t)
		return spanText(s), e
	}
	s, e := town.Owes(n.book, t)
	return spanText(s), e
}

func (n *naive) askBook(word string) (string, api.Errno) {
	switch word {
	case "asked":
		asked, e := town.Asked(n.book)
		return numbersText(asked), e
	case "lost":
		lost, e := town.Lost(n.book)
		return spanText(lost), e
	case "total":
		all, e := house.Total(n.book.House)
		return spanText(all), e
	case "beds":
		beds, e := house.Beds(n.book.House)
		return fmt.Sprint(beds), e
	}
	pairs, e := house.Twice(n.book.House)
	var both []int
	for _, p := range pairs {
		both = append(both, p.One, p.Other)
	}
	return numbersText(both), e
}

func (n *naive) askStore(word string, p []string) (string, api.Errno) {
	switch word {
	case "left":
		if num(p[0]) >= len(n.store.Goods) || num(p[1]) >= len(n.store.Weeks) {
			return "", api.ErrRange
		}
		left, e := store.Left(n.store, num(p[0]), num(p[1]))
		return orNone(spanText(left), e)
	case "lasts":
		if num(p[0]) >= len(n.store.Goods) {
			return "", api.ErrRange
		}
		weeks, e := store.Lasts(n.store, num(p[0]))
		return spanText(weeks), e
	case "short":
		week, good, e := store.Short(n.store)
		if e == api.ErrNone {
			return "-", api.OK
		}
		return numbersText(list(week, good)), e
	}
	half, e := store.Half(n.store)
	return orNone(numbersText(half), e)
}

func (n *naive) askSlope(word string, p []string) (string, api.Errno) {
	if word == "free" {
		free, e := slope.Free(n.slope)
		return numbersText(free), e
	}
	if num(p[0]) >= len(n.slope.Hours) {
		return "", api.ErrRange
	}
	switch word {
	case "load":
		load, e := slope.Load(n.slope, num(p[0]))
		return spanText(load), e
	case "until":
		hour, e := slope.Until(n.slope, num(p[0]))
		return orNone(fmt.Sprint(hour), e)
	}
	if num(p[1]) < 1 || num(p[1]) > 12 {
		return "", api.ErrRange
	}
	hour, e := slope.Cross(n.slope, num(p[0]), num(p[1]))
	return orNone(fmt.Sprint(hour), e)
}

// someSpan is a span from 0 to a number, no wider than this.
func someSpan(r *rand.Rand, most, wide int) api.Span {
	low := r.Intn(most + 1)
	return to(low, min(most, low+r.Intn(wide+1)))
}

// someEar is an ear that hears letters for others, or not.
func someEar(r *rand.Rand) api.NameEar {
	return api.NameEar{
		Alike: [][]string{{"bp", "dt"}, {"bpdt"}, nil}[r.Intn(3)],
		Mute:  texts("h", "")[r.Intn(2)],
		Slips: r.Intn(4),
	}
}

// someStore is a store in which goods last for some weeks, or for all.
func someStore(r *rand.Rand) api.StoreBook {
	var b api.StoreBook
	for range 1 + r.Intn(4) {
		b.Weeks = append(b.Weeks, someSpan(r, 8, 3))
	}
	for range 1 + r.Intn(3) {
		g := api.StoreGood{Each: someSpan(r, 2, 1), House: someSpan(r, 4, 2), Spoil: someSpan(r, 3, 2), Room: 20 + r.Intn(90)}
		g.Have = someSpan(r, g.Room, r.Intn(30))
		b.Goods = append(b.Goods, g)
	}
	for range r.Intn(4) {
		b.Mules = append(b.Mules, api.StoreMule{Week: someSpan(r, len(b.Weeks), 3), Good: r.Intn(len(b.Goods)), Load: someSpan(r, 60, 40)})
	}
	return b
}

// someSlope is a slope that may let go in some hours, without sights.
func someSlope(r *rand.Rand) api.SlopeBook {
	b := api.SlopeBook{
		Slope: api.SlopeSlope{Snow: r.Intn(5), Wind: r.Intn(4), Sun: r.Intn(3), Settle: r.Intn(12), Hold: 20 + r.Intn(40)},
		Start: someSpan(r, 30, 15),
	}
	for range 1 + r.Intn(5) {
		b.Hours = append(b.Hours, api.SlopeHour{New: someSpan(r, 5, 3), Wind: someSpan(r, 3, 2), Sun: someSpan(r, 3, 1)})
	}
	return b
}

// someSetup is any valid setup.
func someSetup(r *rand.Rand) api.CellarerSetup {
	names := texts("sion", "aosta", "brig", "b1")
	r.Shuffle(len(names), func(i, k int) { names[i], names[k] = names[k], names[i] })
	return api.CellarerSetup{
		Ear: someEar(r), Towns: names[:1+r.Intn(4)], Nights: 1 + r.Intn(5), Rate: list(0, 7, r.Intn(101), 100)[r.Intn(4)],
		Store: someStore(r), Slope: someSlope(r),
	}
}

// near is a number of a span, and sometimes one beside it.
func near(r *rand.Rand, s api.Span) int {
	return list(s.Low, s.High, s.Low+r.Intn(s.High-s.Low+1), max(0, s.Low-1), s.High+1, s.Low, s.High)[r.Intn(7)]
}

// about is a span that has a part of another one, and sometimes none of it.
func about(r *rand.Rand, s api.Span) string {
	return fmt.Sprint(max(0, near(r, s)-r.Intn(3)), " ", max(0, near(r, s)+r.Intn(4)-1))
}

// someTown is the name of a town, or of none.
func (n *naive) someTown(r *rand.Rand) string {
	return append(slices.Repeat(n.names, 6), "bern", "Sion")[r.Intn(6*len(n.names)+2)]
}

// someChange is a line that changes something, and often can be true.
func (n *naive) someChange(r *rand.Rand) string {
	t, heard := n.someTown(r), texts("peter", "beter", "peder", "hans", "ans", "b1")[r.Intn(6)]
	switch list(n.often, r.Intn(9), r.Intn(9))[r.Intn(3)] {
	case 0:
		return fmt.Sprint("night ", max(0, n.night+list(0, 0, 1, -1, r.Intn(6))[r.Intn(5)]))
	case 1, 2:
		return fmt.Sprint("sleep ", list(0, 1, 0, 1, 0, 1, 2)[r.Intn(7)], " ", t, " ", heard)
	case 3:
		guests, _ := house.Guests(n.book.House, n.night)
		return "bowls " + texts(about(r, guests), fmt.Sprint(guests.Low, " ", guests.High+r.Intn(2)-1), fmt.Sprint(guests.Low, " 99"), "0 100")[r.Intn(4)]
	case 4:
		return fmt.Sprint("pay ", t, " ", list(1, 7, 30, r.Intn(100), 50000, 100000, 0)[r.Intn(7)])
	case 5:
		nights, _ := town.Nights(n.book, max(0, slices.Index(n.names, t)))
		return "say " + t + " " + texts(about(r, nights), fmt.Sprint(nights.Low, " ", nights.High+r.Intn(2)-1), fmt.Sprint(nights.Low, " 10"), "0 11")[r.Intn(4)]
	case 6:
		if k := r.Intn(len(n.store.Mules) + 1); k < len(n.store.Mules) && r.Intn(9) > 0 {
			return fmt.Sprint("came ", k, " ", near(r, n.store.Mules[k].Week), " ", near(r, n.store.Mules[k].Load))
		}
		return fmt.Sprint("came ", r.Intn(5), " ", r.Intn(11), " ", r.Intn(502))
	case 7:
		if k := r.Intn(len(n.store.Goods)); r.Intn(9) > 0 {
			return fmt.Sprint("count ", k, " ", near(r, n.store.Goods[k].Have))
		}
		return fmt.Sprint("count ", r.Intn(4), " ", r.Intn(1002))
	}
	return n.someSight(r)
}

// someSight is a line about an hour, often about a part of what its load can be.
func (n *naive) someSight(r *rand.Rand) string {
	hour := r.Intn(len(n.slope.Hours))
	load, _ := slope.Load(n.slope, hour)
	if load.High > n.slope.Slope.Hold && r.Intn(2) == 0 {
		return fmt.Sprint("fell ", hour, " ", load.Low+r.Intn(3), " ", load.High)
	}
	switch r.Intn(8) {
	case 0:
		return fmt.Sprint("saw ", hour+r.Intn(2), " 0 ", 2000+r.Intn(2))
	case 1:
		return fmt.Sprint("fell ", hour, " ", about(r, load))
	case 2:
		return fmt.Sprint("saw ", hour, " ", about(r, load))
	}
	return fmt.Sprint("saw ", hour, " ", load.Low, " ", min(load.High, max(load.Low, n.slope.Slope.Hold)+r.Intn(9)))
}

// someQuestion is a line that asks.
func (n *naive) someQuestion(r *rand.Rand) string {
	_, asks := naiveForms()
	line := strings.Replace(asks[r.Intn(len(asks))], "T", n.someTown(r), 1)
	word, _, _ := strings.Cut(line, " ")
	if word == "share" {
		return fmt.Sprint("share ", list(0, 1, 100, r.Intn(1000001), 1000000, 1000001)[r.Intn(6)])
	}
	numbers := map[string][]int{
		"left": list(r.Intn(len(n.store.Goods)+1), r.Intn(len(n.store.Weeks)+1)), "lasts": list(r.Intn(len(n.store.Goods) + 1)),
		"load": list(r.Intn(len(n.slope.Hours) + 1)), "until": list(r.Intn(len(n.slope.Hours) + 1)),
		"cross": list(r.Intn(len(n.slope.Hours)+1), list(0, 1, 1, 2, 2, 3, 12, 13)[r.Intn(8)]),
	}[word]
	for _, k := range numbers {
		line = strings.Replace(line, "N", fmt.Sprint(k), 1)
	}
	return line
}

// garbled is a text that was a line, with a byte more, less, or another one.
func garbled(r *rand.Rand, line string) string {
	i := r.Intn(len(line))
	more := texts("", " ", "0", "x", "A", "\n", "-", "\xff", strings.Repeat("9", 99))[r.Intn(9)]
	return line[:i] + more + line[i+r.Intn(2):]
}

// someLine is any line.
func (n *naive) someLine(r *rand.Rand) string {
	switch r.Intn(12) {
	case 0:
		return garbled(r, n.someChange(r))
	case 1:
		return garbled(r, n.someQuestion(r))
	case 2, 3, 4:
		return n.someQuestion(r)
	}
	return n.someChange(r)
}
