package cellarer_test

import (
	"fmt"
	"math/rand"
	"slices"
	"strings"
	"testing"

	"clavendier/api"
	"clavendier/cellarer"
	"clavendier/house"
	"clavendier/slope"
	"clavendier/store"
	"clavendier/town"
)

// enough tests that there were so many cases of each kind.
func enough(t *testing.T, least int, kinds map[string]int, must ...string) {
	t.Helper()
	for _, kind := range must {
		if kinds[kind] < least {
			t.Errorf("%s: %d times, less than %d (%v)", kind, kinds[kind], least, kinds)
		}
	}
}

// same compares what a clerk has with what a clerk in the plainest way has.
func same(t *testing.T, c *cellarer.Cellarer, n *naive) {
	t.Helper()
	wantClerk(t, c, n.night, n.book.House.Lines, n.book.Paid, n.slope.Sights, n.journal)
}

// kindsOfLines are all kinds of what can become of lines that have the form.
func kindsOfLines() []string {
	var kinds []string
	for words, ends := range map[string]string{
		"night lasts left load": "answer ErrRange", "sleep": "answer ErrCellarerUnknown ErrRange ErrFull ErrCellarerFalse",
		"bowls came count": "answer ErrRange ErrCellarerFalse", "pay": "answer ErrCellarerUnknown ErrRange", "say": "answer ErrCellarerUnknown ErrRange ErrCellarerFalse",
		"saw fell": "answer ErrRange ErrFull ErrCellarerFalse", "today paid asked lost total beds twice short free half": "answer", "heads owes": "answer ErrCellarerUnknown",
		"share left until cross": "answer ErrRange ErrNone", "half": "ErrNone",
	} {
		for _, word := range strings.Fields(words) {
			for _, end := range strings.Fields(ends) {
				kinds = append(kinds, word+" "+end)
			}
		}
	}
	return append(kinds, "form ErrCellarerLine", "journal ErrFull")
}

// kindOf is the kind of what became of a line.
func kindOf(n *naive, line, told string) string {
	word, _, _ := strings.Cut(line, " ")
	switch {
	case told == "ErrCellarerLine":
		return "form " + told
	case told == "ErrFull" && len(n.journal) == 200:
		return "journal " + told
	case strings.HasPrefix(told, "Err"):
		return word + " " + told
	}
	return word + " answer"
}

// begun are a clerk, and one in the plainest way, of a setup; some have done many lines already.
func begun(t *testing.T, r *rand.Rand, s api.CellarerSetup) (*cellarer.Cellarer, *naive) {
	t.Helper()
	c, n := clerk(t, s), newNaive(s)
	n.often = r.Intn(9)
	if r.Intn(8) == 0 {
		for range 180 {
			done(t, c, "night 0")
			n.do("night 0")
		}
	}
	return c, n
}

// P11.2, P11.3, P11.11: whatever lines there are, the answers and all that the clerk has are as done in the plainest way.
func TestAsDonePlainly(t *testing.T) {
	r := rand.New(rand.NewSource(1))
	kinds := map[string]int{}
	for range 260 {
		s := someSetup(r)
		c, n := begun(t, r, s)
		for range 80 {
			line := n.someLine(r)
			kind := n.copied()
			must := written(n.do(line))
			if got := told(c, line); got != must {
				t.Fatalf("%v: %q: %q: %s, not %s", s, n.journal, line, got, must)
			}
			kinds[kindOf(kind, line, must)]++
			same(t, c, n)
		}
	}
	enough(t, 10, kinds, kindsOfLines()...)
}

// P11.6: THE WINTER: a clerk whose file is opened is the same again, with the same file, and goes on alike.
func TestTheWinter(t *testing.T) {
	r := rand.New(rand.NewSource(2))
	kinds := map[string]int{}
	for range 120 {
		s := someSetup(r)
		c, n := begun(t, r, s)
		for range r.Intn(60) {
			line := n.someLine(r)
			told(c, line)
			n.do(line)
		}
		again, at, e := cellarer.Open(s, c.File())
		if again == nil || at != len(c.Journal()) || e != api.OK {
			t.Fatalf("%v: %q: %d, error %d", s, c.File(), at, e)
		}
		same(t, again, n)
		for range 30 {
			line := n.someLine(r)
			kind := n.copied()
			must := written(n.do(line))
			if one, other := told(c, line), told(again, line); one != must || other != must {
				t.Fatalf("%v: %q: %q: %s, %s", s, c.File(), line, one, other)
			}
			kinds[kindOf(kind, line, must)]++
			same(t, again, n)
		}
		if again.File() != c.File() {
			t.Fatalf("%q, %q", again.File(), c.File())
		}
	}
	enough(t, 10, kinds, "sleep answer", "sleep ErrFull", "bowls answer", "bowls ErrCellarerFalse", "pay answer", "say answer", "came answer", "came ErrCellarerFalse", "count answer", "saw answer", "fell answer", "saw ErrFull", "night ErrRange", "journal ErrFull")
}

// shown is all that a clerk has, and all that it answers.
func shown(c *cellarer.Cellarer) string {
	all := fmt.Sprint(c.Night(), c.Lines(), c.Paid(), c.Sights(), c.Journal(), c.File())
	for _, line := range texts("today", "paid", "asked", "lost", "total", "beds", "twice", "short", "half", "free", "share 100", "cross 0 1", "cross 0 2") {
		all += "; " + told(c, line)
	}
	for _, name := range texts("sion", "aosta", "brig", "b1") {
		all += "; " + told(c, "heads "+name) + "; " + told(c, "owes "+name)
	}
	for k := range 3 {
		all += fmt.Sprint("; ", told(c, fmt.Sprint("left ", k, " 0")), "; ", told(c, fmt.Sprint("lasts ", k)))
	}
	for hour := range 5 {
		all += fmt.Sprint("; ", told(c, fmt.Sprint("load ", hour)), "; ", told(c, fmt.Sprint("until ", hour)))
	}
	return all
}

// P11.7, R2: a line that is an error, or asks, changes nothing.
func TestErrorsAndQuestionsChangeNothing(t *testing.T) {
	r := rand.New(rand.NewSource(3))
	kinds := map[string]int{}
	for range 60 {
		s := someSetup(r)
		c, n := begun(t, r, s)
		before := shown(c)
		for range 60 {
			line, journal := n.someLine(r), len(n.journal)
			kind := n.copied()
			must := written(n.do(line))
			told(c, line)
			after := shown(c)
			if len(n.journal) == journal {
				kinds[kindOf(kind, line, must)]++
				if after != before {
					t.Fatalf("%v: %q: %q: %s, not %s", s, n.journal, line, after, before)
				}
			}
			before = after
		}
	}
	kindsOfErrors := slices.DeleteFunc(kindsOfLines(), func(kind string) bool {
		changes, _ := naiveForms()
		return slices.ContainsFunc(changes, func(form string) bool { return kind == form[:strings.Index(form, " ")]+" answer" })
	})
	enough(t, 1, kinds, kindsOfErrors...)
}

// books are the books of which the layers tell: what the clerk tells of itself, and what it was told in lines that had no error.
type books struct {
	town  api.TownBook
	store api.StoreBook
	slope api.SlopeBook
}

// booksOf reads these books from a clerk and from its journal.
func booksOf(s api.CellarerSetup, c *cellarer.Cellarer) books {
	n := newNaive(s)
	b := books{n.book, n.store, n.slope}
	night := 0
	for _, line := range c.Journal() {
		p := strings.Split(line, " ")
		switch p[0] {
		case "night":
			night = num(p[1])
		case "bowls":
			b.town.House.Bowls[night] = to(num(p[1]), num(p[2]))
		case "say":
			b.town.Says[slices.Index(s.Towns, p[1])] = to(num(p[2]), num(p[3]))
		case "came":
			m := &b.store.Mules[num(p[1])]
			m.Week, m.Load = at(num(p[2])), at(num(p[3]))
		case "count":
			b.store.Goods[num(p[1])].Have = at(num(p[2]))
		}
	}
	b.town.House.Lines, b.town.Paid, b.slope.Sights = c.Lines(), c.Paid(), c.Sights()
	return b
}

// wantTold tests that a line is answered with what a layer tells.
func wantTold(t *testing.T, c *cellarer.Cellarer, line, answer string, e api.Errno) {
	t.Helper()
	if got, must := told(c, line), written(answer, e); got != must {
		t.Errorf("%q: %q: %s, not %s", c.Journal(), line, got, must)
	}
}

// P11.8: EACH NIGHT IS COUNTED ONCE: behind each line the book of the towns can be right, with the same lines; what is told of nights and debts is what the layers tell; the present night never goes back.
func TestEachNightIsCountedOnce(t *testing.T) {
	r := rand.New(rand.NewSource(4))
	kinds := map[string]int{}
	for range 120 {
		s := someSetup(r)
		c, n := begun(t, r, s)
		n.often = list(1, 1, 3, 5)[r.Intn(4)]
		for range 40 {
			night, lines, line := c.Night(), c.Lines(), texts(n.someChange(r), n.someChange(r), n.someLine(r))[r.Intn(3)]
			n.do(line)
			answer := told(c, line)
			b := booksOf(s, c)
			if is, e := town.Right(b.town); !is || e != api.OK {
				t.Fatalf("%v: %q: the book cannot be right", s, n.journal)
			}
			more := 0
			if strings.HasPrefix(line, "sleep ") && !strings.HasPrefix(answer, "Err") {
				more = 1
			}
			if c.Night() < night || len(c.Lines()) != len(lines)+more || !slices.Equal(c.Lines()[:len(lines)], lines) {
				t.Fatalf("%q: %q: %d, %v; before: %d, %v", n.journal, line, c.Night(), c.Lines(), night, lines)
			}
			toldOfNights(t, c, b.town, s.Towns, kinds)
		}
	}
	enough(t, 50, kinds, "twice", "not settled", "said less", "owes too little", "shared", "nobody shares", "lost")
}

// toldOfNights compares what is told of nights and debts with what the layers of house and town tell.
func toldOfNights(t *testing.T, c *cellarer.Cellarer, b api.TownBook, names []string, kinds map[string]int) {
	t.Helper()
	all, e := house.Total(b.House)
	wantTold(t, c, "total", spanText(all), e)
	beds, e := house.Beds(b.House)
	wantTold(t, c, "beds", fmt.Sprint(beds), e)
	pairs, e := house.Twice(b.House)
	wantTold(t, c, "twice", numbersText(flat(pairs)), e)
	asked, e := town.Asked(b)
	wantTold(t, c, "asked", numbersText(asked), e)
	lost, e := town.Lost(b)
	wantTold(t, c, "lost", spanText(lost), e)
	parts, e := town.Share(b, 1000)
	answer, e := orNone(numbersText(parts), e)
	wantTold(t, c, "share 1000", answer, e)
	for k, name := range names {
		nights, e := town.Nights(b, k)
		wantTold(t, c, "heads "+name, spanText(nights), e)
		owes, e := town.Owes(b, k)
		wantTold(t, c, "owes "+name, spanText(owes), e)
		heads, _ := house.Heads(b.House, k)
		count(kinds, "said less", heads != nights)
		count(kinds, "owes too little", owes.Low < 0 && nights.High > 0)
	}
	count(kinds, "twice", len(pairs) > 0)
	count(kinds, "not settled", all.Low < all.High)
	count(kinds, "shared", len(parts) > 1)
	count(kinds, "nobody shares", len(parts) == 0)
	count(kinds, "lost", lost.High > 0)
}

// flat lists the numbers of both lines of pairs.
func flat(pairs []api.NamePair) []int {
	var both []int
	for _, p := range pairs {
		both = append(both, p.One, p.Other)
	}
	return both
}

// count counts a case, if it is of a kind.
func count(kinds map[string]int, kind string, is bool) {
	if is {
		kinds[kind]++
	}
}

// P11.8: whoever truly slept at the house, if bowls were counted rightly, and towns say what is so: no line is an error, and the true nights lie within what is told.
func TestWhoTrulySlept(t *testing.T) {
	r := rand.New(rand.NewSource(5))
	kinds := map[string]int{}
	for range 400 {
		s := setup(nights(1+r.Intn(5)), rate(r.Intn(101)), towns(texts("sion", "aosta", "brig")[:1+r.Intn(3)]...))
		c, slept := clerk(t, s), make([]int, len(s.Towns))
		room := 10
		for night := range s.Nights {
			done(t, c, fmt.Sprint("night ", night))
			guests := 0
			for range r.Intn(4) {
				k, n := r.Intn(len(s.Towns)), r.Intn(2)
				spellings := [][]string{{"peter", "beter", "pehder"}, {"hans", "ans", "hahns"}}[n]
				if room < 2 {
					break
				}
				// One brother heard a guest, or both did, and each in his own way.
				which := list(0, 1, 2, 2, 2)[r.Intn(5)]
				for brother := range 2 {
					if which == 2 || which == brother {
						done(t, c, fmt.Sprint("sleep ", brother, " ", s.Towns[k], " ", spellings[2*brother-brother*r.Intn(2)]))
						room--
					}
				}
				slept[k]++
				guests++
			}
			done(t, c, fmt.Sprint("bowls ", max(0, guests-r.Intn(2)), " ", guests+r.Intn(2)))
		}
		toldTruly(t, r, c, s, slept, kinds)
	}
	enough(t, 50, kinds, "not settled", "settled", "said")
}

// toldTruly tests what is told of towns of which people truly slept at the house for so many nights.
func toldTruly(t *testing.T, r *rand.Rand, c *cellarer.Cellarer, s api.CellarerSetup, slept []int, kinds map[string]int) {
	t.Helper()
	all := 0
	for k, n := range slept {
		if r.Intn(2) == 0 {
			done(t, c, fmt.Sprint("say ", s.Towns[k], " ", max(0, n-r.Intn(2)), " ", min(10, n+r.Intn(2))))
			kinds["said"]++
		}
		all += n
	}
	for k, n := range slept {
		heads, owes := spanOf(t, c, "heads "+s.Towns[k]), spanOf(t, c, "owes "+s.Towns[k])
		if !contains(heads, n) || !contains(owes, n*s.Rate) {
			t.Errorf("%q: %s: %v, %v; truly %d", c.Journal(), s.Towns[k], heads, owes, n)
		}
	}
	total := spanOf(t, c, "total")
	if !contains(total, all) {
		t.Errorf("%q: %v; truly %d", c.Journal(), total, all)
	}
	count(kinds, "not settled", total.Low < total.High)
	count(kinds, "settled", total.Low == total.High && all > 0)
}

// spanOf is the answer of a line that is one of a span.
func spanOf(t *testing.T, c *cellarer.Cellarer, line string) api.Span {
	t.Helper()
	var s api.Span
	if n, err := fmt.Sscan(told(c, line), &s.Low, &s.High); n != 2 || err != nil {
		t.Fatalf("%q: %s", line, told(c, line))
	}
	return s
}

// P11.9: TO THE BATZ: what each town has paid is the sum of all that it paid line by line, and what it owes is less by just this.
func TestToTheBatz(t *testing.T) {
	r := rand.New(rand.NewSource(6))
	kinds := map[string]int{}
	for range 150 {
		s := someSetup(r)
		c, n := begun(t, r, s)
		unpaid := clerk(t, s)
		for range 60 {
			line := n.someLine(r)
			n.do(line)
			told(c, line)
			if strings.HasPrefix(line, "pay ") {
				kinds["paid"]++
				continue
			}
			told(unpaid, line)
		}
		sums := make([]int, len(s.Towns))
		for _, line := range c.Journal() {
			if p := strings.Split(line, " "); p[0] == "pay" {
				sums[slices.Index(s.Towns, p[1])] += num(p[2])
			}
		}
		if told(c, "paid") != numbersText(sums) || !slices.Equal(c.Paid(), sums) {
			t.Errorf("%q: %s, %v, not %v", c.Journal(), told(c, "paid"), c.Paid(), sums)
		}
		if len(c.Journal()) == 200 {
			// A line that the other clerk did may have had no room.
			continue
		}
		for k, name := range s.Towns {
			owes, before := spanOf(t, c, "owes "+name), spanOf(t, unpaid, "owes "+name)
			if owes != to(before.Low-sums[k], before.High-sums[k]) {
				t.Errorf("%q: %s owes %v, and without what it paid %v", c.Journal(), name, owes, before)
			}
			count(kinds, "owes less", sums[k] > 0 && owes.High > 0)
			count(kinds, "paid too much", owes.High < 0)
		}
	}
	enough(t, 20, kinds, "paid", "owes less", "paid too much")
}

// numbersOf are the numbers of an answer.
func numbersOf(answer string) []int {
	var list []int
	for _, token := range strings.Fields(answer) {
		if token != "-" {
			list = append(list, num(token))
		}
	}
	return list
}

// lasting is for how many weeks each good lasts at least.
func lasting(t *testing.T, c *cellarer.Cellarer, goods int) []int {
	t.Helper()
	var weeks []int
	for k := range goods {
		weeks = append(weeks, spanOf(t, c, fmt.Sprint("lasts ", k)).Low)
	}
	return weeks
}

// P11.10: what is known better of mules and goods never lets a good last for fewer weeks; one sight more of the slope leaves no fewer safe hours.
func TestWhatIsKnownBetter(t *testing.T) {
	r := rand.New(rand.NewSource(7))
	kinds := map[string]int{}
	for range 250 {
		s := someSetup(r)
		c, n := begun(t, r, s)
		n.often = list(6, 6, 7, 8)[r.Intn(4)]
		for range 50 {
			line := n.someChange(r)
			word, _, _ := strings.Cut(line, " ")
			weeks, free := lasting(t, c, len(s.Store.Goods)), numbersOf(told(c, "free"))
			n.do(line)
			if strings.HasPrefix(told(c, line), "Err") {
				continue
			}
			for k, now := range lasting(t, c, len(s.Store.Goods)) {
				if now < weeks[k] {
					t.Errorf("%v: %q: the good %d lasts for %d weeks, not %d", s, c.Journal(), k, now, weeks[k])
				}
				count(kinds, word+": lasts longer", now > weeks[k])
			}
			now := numbersOf(told(c, "free"))
			for _, hour := range free {
				if !slices.Contains(now, hour) {
					t.Errorf("%v: %q: %v, not %v", s, c.Journal(), now, free)
				}
			}
			count(kinds, word+": more hours", len(now) > len(free))
		}
	}
	enough(t, 15, kinds, "came: lasts longer", "count: lasts longer", "saw: more hours", "fell: more hours")
}

// P11.11: what lines that ask answer is what the layers of store and slope tell, of what the clerk has.
func TestWhatTheLayersTell(t *testing.T) {
	r := rand.New(rand.NewSource(8))
	kinds := map[string]int{}
	for range 90 {
		s := someSetup(r)
		c, n := begun(t, r, s)
		for range 30 {
			line := n.someChange(r)
			n.do(line)
			word, _, _ := strings.Cut(line, " ")
			count(kinds, word, !strings.HasPrefix(told(c, line), "Err"))
		}
		b := booksOf(s, c)
		toldOfGoods(t, c, b.store)
		toldOfHours(t, c, b.slope)
	}
	enough(t, 50, kinds, "came", "count", "saw", "fell")
}

// toldOfGoods compares what is told of goods with what the layer of the store tells.
func toldOfGoods(t *testing.T, c *cellarer.Cellarer, b api.StoreBook) {
	t.Helper()
	for k := range 4 {
		for week := range 10 {
			left, e := store.Left(b, k, week)
			answer, e := ranged(spanText(left), e, api.ErrStoreAsk)
			wantTold(t, c, fmt.Sprint("left ", k, " ", week), answer, e)
		}
		weeks, e := store.Lasts(b, k)
		answer, e := ranged(spanText(weeks), e, api.ErrStoreAsk)
		wantTold(t, c, fmt.Sprint("lasts ", k), answer, e)
	}
	half, e := store.Half(b)
	answer, e := orNone(numbersText(half), e)
	wantTold(t, c, "half", answer, e)
	week, good, e := store.Short(b)
	if e == api.ErrNone {
		wantTold(t, c, "short", "-", api.OK)
		return
	}
	wantTold(t, c, "short", numbersText(list(week, good)), e)
}

// toldOfHours compares what is told of hours with what the layer of the slope tells.
func toldOfHours(t *testing.T, c *cellarer.Cellarer, b api.SlopeBook) {
	t.Helper()
	free, e := slope.Free(b)
	wantTold(t, c, "free", numbersText(free), e)
	for hour := range 6 {
		load, e := slope.Load(b, hour)
		answer, e := ranged(spanText(load), e, api.ErrSlopeAsk)
		wantTold(t, c, fmt.Sprint("load ", hour), answer, e)
		until, e := slope.Until(b, hour)
		answer, e = ranged(fmt.Sprint(until), e, api.ErrSlopeAsk)
		wantTold(t, c, fmt.Sprint("until ", hour), answer, e)
		for long := range 14 {
			begin, e := slope.Cross(b, hour, long)
			answer, e := ranged(fmt.Sprint(begin), e, api.ErrSlopeAsk)
			wantTold(t, c, fmt.Sprint("cross ", hour, " ", long), answer, e)
		}
	}
}

// ranged is an answer, or ErrRange if the layer was asked wrongly, and ErrNone if it has another error.
func ranged(answer string, e, ask api.Errno) (string, api.Errno) {
	if e == ask {
		return "", api.ErrRange
	}
	return orNone(answer, e)
}

// lists are all lists of a setup, behind whose ends there is more.
type lists struct {
	alike, towns []string
	goods        []api.StoreGood
	weeks        []api.Span
	mules        []api.StoreMule
	hours        []api.SlopeHour
	sights       []api.SlopeSight
}

// listsOf gives a setup such lists.
func listsOf(s *api.CellarerSetup) lists {
	l := lists{
		append(slices.Clone(s.Ear.Alike), "xy", "vw"), append(slices.Clone(s.Towns), "x", "y"),
		append(slices.Clone(s.Store.Goods), api.StoreGood{Room: 9}), append(slices.Clone(s.Store.Weeks), to(7, 8)), append(slices.Clone(s.Store.Mules), api.StoreMule{Good: 2}),
		append(slices.Clone(s.Slope.Hours), api.SlopeHour{New: at(9)}), []api.SlopeSight{{Hour: 1}, {Hour: 2}},
	}
	s.Ear.Alike, s.Towns = l.alike[:len(s.Ear.Alike)], l.towns[:len(s.Towns)]
	s.Store.Goods, s.Store.Weeks, s.Store.Mules = l.goods[:len(s.Store.Goods)], l.weeks[:len(s.Store.Weeks)], l.mules[:len(s.Store.Mules)]
	s.Slope.Hours, s.Slope.Sights = l.hours[:len(s.Slope.Hours)], l.sights[:0]
	return l
}

// P11.5, R4: a setup is only read, and nothing of it is kept: the clerk goes on alike when all of it is written over.
func TestSetupsAreRead(t *testing.T) {
	r := rand.New(rand.NewSource(9))
	for range 60 {
		s := someSetup(r)
		n, own := newNaive(s), s
		l := listsOf(&own)
		before := fmt.Sprintf("%v", l)
		c := clerk(t, own)
		opened, _ := open(t, own, "night 0\n")
		n.do("night 0")
		done(t, c, "night 0")
		step := func(times int) {
			for range times {
				line := n.someLine(r)
				must := written(n.do(line))
				if one, other := told(c, line), told(opened, line); one != must || other != must {
					t.Fatalf("%q: %q: %s, %s, not %s", n.journal, line, one, other, must)
				}
			}
		}
		step(20)
		if after := fmt.Sprintf("%v", l); after != before {
			t.Fatalf("%s, not %s", after, before)
		}
		l.alike[0], l.towns[0], l.goods[0], l.weeks[0], l.hours[0], l.sights[0] = "zz", "zz", api.StoreGood{}, at(99), api.SlopeHour{}, api.SlopeSight{Hour: 9}
		l.mules[0] = api.StoreMule{Good: 9}
		step(20)
		same(t, c, n)
		same(t, opened, n)
	}
}

// P11.5, R4: results are new memory, which neither later lines nor other results change.
func TestResultsAreNew(t *testing.T) {
	c := clerk(t, setup())
	done(t, c, "sleep 0 sion peter", "pay sion 3", "saw 1 39 60")
	lines, paid, sights, journal := c.Lines(), c.Paid(), c.Sights(), c.Journal()
	moreLines, moreSights, moreJournal := append(lines, api.HouseLine{Heard: "y"}), append(sights, api.SlopeSight{Hour: 3}), append(journal, "y")
	lines[0], paid[0], sights[0], journal[0] = api.HouseLine{}, 99, api.SlopeSight{}, "x"
	wantHas := func() {
		t.Helper()
		wantClerk(t, c, 0, []api.HouseLine{{Heard: "peter"}}, list(3, 0), []api.SlopeSight{{Hour: 1, Load: to(39, 60)}}, texts("sleep 0 sion peter", "pay sion 3", "saw 1 39 60"))
	}
	wantHas()
	lines, paid, sights, journal = c.Lines(), c.Paid(), c.Sights(), c.Journal()
	wantHas()
	done(t, c, "sleep 1 sion beter", "pay sion 4", "saw 1 39 59", "night 1")
	if !slices.Equal(lines, []api.HouseLine{{Heard: "peter"}}) || !slices.Equal(paid, list(3, 0)) || len(sights) != 1 || sights[0].Load != to(39, 60) || len(journal) != 3 || journal[0] != "sleep 0 sion peter" {
		t.Errorf("%v, %v, %v, %q: a result was changed by a later line", lines, paid, sights, journal)
	}
	if moreLines[1].Heard != "y" || moreSights[1].Hour != 3 || moreJournal[3] != "y" {
		t.Errorf("%v, %v, %q: what is behind a result was changed by a later line", moreLines, moreSights, moreJournal)
	}
	wantClerk(t, c, 1,
		[]api.HouseLine{{Heard: "peter"}, {Brother: 1, Heard: "beter"}}, list(7, 0), []api.SlopeSight{{Hour: 1, Load: to(39, 60)}, {Hour: 1, Load: to(39, 59)}},
		texts("sleep 0 sion peter", "pay sion 3", "saw 1 39 60", "sleep 1 sion beter", "pay sion 4", "saw 1 39 59", "night 1"))
}

// P2: clerks have nothing to do with each other: the same lines have the same answers, whatever other clerks do between them.
func TestClerksAreAlone(t *testing.T) {
	r := rand.New(rand.NewSource(10))
	var clerks []*cellarer.Cellarer
	var plain []*naive
	for range 25 {
		s := someSetup(r)
		for range 2 {
			clerks, plain = append(clerks, clerk(t, s)), append(plain, newNaive(s))
		}
	}
	for range 2500 {
		k := r.Intn(len(clerks))
		line := plain[k].someLine(r)
		must := written(plain[k].do(line))
		if got := told(clerks[k], line); got != must {
			t.Fatalf("%q: %q: %s, not %s", plain[k].journal, line, got, must)
		}
	}
	for k, c := range clerks {
		same(t, c, plain[k])
	}
}

// number is any number, often one near to an end.
func number(r *rand.Rand) int {
	return list(-1, 0, 1, 4, 5, 6, 9, 10, 100, 101, 1000, -r.Int(), r.Int())[r.Intn(13)]
}

// garbledSetup is a setup of which some part was changed to anything.
func garbledSetup(r *rand.Rand, s api.CellarerSetup) api.CellarerSetup {
	for range r.Intn(3) {
		g, h := &s.Store.Goods[r.Intn(len(s.Store.Goods))], &s.Slope.Hours[r.Intn(len(s.Slope.Hours))]
		switch r.Intn(10) {
		case 0:
			s.Nights = number(r)
		case 1:
			s.Rate = number(r)
		case 2:
			s.Ear = api.NameEar{Alike: texts("ab", "bc", "B", "abcde")[r.Intn(4):], Mute: texts("", "h", "hh", "xyzv")[r.Intn(4)], Slips: number(r)}
		case 3:
			s.Towns = append(slices.Clone(s.Towns), texts("a", "sion", "A", "", "thirteenbytes")[r.Intn(5)])
		case 4:
			g.Room, g.Have = number(r), to(number(r), number(r))
		case 5:
			g.Each, g.House = to(number(r), number(r)), to(number(r), number(r))
		case 6:
			s.Store.Weeks = append(s.Store.Weeks, to(number(r), number(r)))
		case 7:
			s.Store.Mules = append(s.Store.Mules, api.StoreMule{Week: to(number(r), number(r)), Good: number(r), Load: to(number(r), number(r))})
		case 8:
			h.New, h.Wind = to(number(r), number(r)), to(number(r), number(r))
		case 9:
			s.Slope.Slope.Hold, s.Slope.Start = number(r), to(number(r), number(r))
		}
	}
	return s
}

// someText is any text, often one of words and numbers.
func someText(r *rand.Rand) string {
	var b strings.Builder
	for range r.Intn(9) {
		b.WriteString(texts("sleep", "pay", "cross", "sion", "x", "0", "1", " ", " ", " ", "\n", "9999999", "99999999", "-1", string(rune(r.Intn(300))), "\xff")[r.Intn(16)])
	}
	return b.String()
}

// P1: whatever is given, every function returns, and with an error nothing else.
func TestAnyArguments(t *testing.T) {
	r := rand.New(rand.NewSource(11))
	kinds := map[string]int{}
	for range 2500 {
		s := garbledSetup(r, someSetup(r))
		file := texts("", "night 0\n", someText(r), someText(r)+"\n", "night 0\n"+someText(r)+"\nnight 0\n")[r.Intn(5)]
		c, e := cellarer.New(s)
		d, at, code := cellarer.Open(s, file)
		if e != cellarer.Check(s) || (c == nil) != (e != api.OK) || (d == nil) != (code != api.OK) || e != api.OK && (at != 0 || code != api.ErrCellarer) {
			t.Fatalf("%v, %q: %v, error %d; %v, %d, error %d", s, file, c, e, d, at, code)
		}
		kinds[written("setup", e)]++
		kinds[written("file", code)]++
		for range 20 {
			if answer, e := c.Do(someText(r)); (answer == "") != (e != api.OK) {
				t.Fatalf("%q, error %d", answer, e)
			}
		}
		shown(c)
	}
	enough(t, 100, kinds, "setup", "file", "setup, error 119", "file, error 110")
}
