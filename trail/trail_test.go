package trail_test

import (
	"fmt"
	"math"
	"slices"
	"testing"

	"clavendier/api"
	"clavendier/trail"
)

func to(low, high int) api.Span { return api.Span{Low: low, High: high} }

func at(n int) api.Span { return to(n, n) }

// seen is a sight of the traveller at a post.
func seen(post, low, high int) api.TrailSight {
	return api.TrailSight{Post: post, Minutes: to(low, high), Seen: true}
}

// away is a sight that says that the traveller was not there.
func away(post, low, high int) api.TrailSight {
	return api.TrailSight{Post: post, Minutes: to(low, high)}
}

// free is the trail of the chapter, with these sights alone.
func free(sights ...api.TrailSight) api.TrailBook {
	return api.TrailBook{
		Stretches: []api.TrailStretch{
			{Walk: to(30, 40), Rest: to(0, 5)},
			{Walk: to(60, 90), Rest: to(0, 20), Shut: []api.Span{to(540, 600)}},
			{Walk: to(20, 30), Rest: to(0, 10)},
		},
		Start:  to(480, 490),
		Sights: sights,
	}
}

// book is the trail of the chapter, with more sights.
func book(more ...api.TrailSight) api.TrailBook {
	return free(slices.Concat([]api.TrailSight{seen(1, 515, 525), away(2, 590, 610)}, more)...)
}

// falseBook is the trail of the chapter with sights that cannot all be right.
func falseBook() api.TrailBook { return book(away(1, 500, 540)) }

// with is a trail with other sights.
func with(b api.TrailBook, sights ...api.TrailSight) api.TrailBook {
	b.Sights = sights
	return b
}

// changed is the trail of the chapter, changed.
func changed(change func(b *api.TrailBook)) api.TrailBook {
	b := book()
	change(&b)
	return b
}

// shut is the trail of the chapter, with these times in which the first stretch is shut.
func shut(times ...api.Span) api.TrailBook {
	b := free()
	b.Stretches[0].Shut = times
	return b
}

// exact is a trail on which nothing is unknown: the start, and for each stretch the rest and the walk.
func exact(start int, both ...int) api.TrailBook {
	b := api.TrailBook{Start: at(start)}
	for i := 0; i < len(both); i += 2 {
		b.Stretches = append(b.Stretches, api.TrailStretch{Rest: at(both[i]), Walk: at(both[i+1])})
	}
	return b
}

// widest is the widest trail that is valid.
func widest() api.TrailBook {
	x := api.TrailStretch{Walk: to(1, 240), Rest: to(0, 120), Shut: []api.Span{to(0, 0), to(2, 2), to(4, 4000)}}
	return api.TrailBook{Stretches: slices.Repeat([]api.TrailStretch{x}, 6), Start: to(0, 1439)}
}

// wrongBooks are trails that are not valid.
func wrongBooks() map[string]api.TrailBook {
	list := map[string]api.TrailBook{
		"nothing":                      {},
		"no stretches":                 changed(func(b *api.TrailBook) { b.Stretches, b.Sights = nil, nil }),
		"no stretches, but a list":     changed(func(b *api.TrailBook) { b.Stretches, b.Sights = []api.TrailStretch{}, nil }),
		"seven stretches":              changed(func(b *api.TrailBook) { b.Stretches = slices.Repeat(b.Stretches, 3)[:7] }),
		"far too many stretches":       changed(func(b *api.TrailBook) { b.Stretches = slices.Repeat(b.Stretches[:1], 1<<16) }),
		"seven sights":                 free(slices.Repeat([]api.TrailSight{seen(1, 515, 525)}, 7)...),
		"far too many sights":          free(make([]api.TrailSight, 1<<16)...),
		"a sight behind the last post": book(seen(4, 0, 4000)),
		"a sight before the first one": book(away(-1, 0, 4000)),
		"a sight of the least post":    book(away(math.MinInt, 0, 4000)),
		"a sight of the greatest post": book(away(math.MaxInt, 0, 4000)),
		"a wrong sight, and false":     book(away(1, 500, 540), seen(1, 0, 4001)),
		"times that meet":              shut(to(1, 2), to(2, 4)),
		"times that follow at once":    shut(to(1, 2), to(3, 4)),
		"times of which one is in one": shut(to(1, 9), to(3, 4)),
		"times the wrong way round":    shut(to(5, 6), to(1, 2)),
		"a third time too soon":        shut(to(1, 2), to(4, 5), to(6, 7)),
		"four times":                   shut(at(1), at(3), at(5), at(7)),
		"far too many times":           shut(make([]api.Span, 1<<16)...),
		"times far apart":              shut(at(math.MaxInt), at(math.MinInt)),
		"a wrong last stretch":         changed(func(b *api.TrailBook) { b.Stretches[2].Walk = to(0, 30) }),
	}
	for what, s := range spans() {
		wrong := []api.Span{to(s.least-1, s.least), to(s.most, s.most+1), to(s.least+2, s.least+1), to(math.MinInt, math.MaxInt), to(math.MaxInt, math.MinInt), at(math.MinInt), at(math.MaxInt)}
		for _, span := range wrong {
			list[fmt.Sprint(what, " ", span)] = changed(func(b *api.TrailBook) { *s.of(b) = span })
		}
	}
	return list
}

// known is a span of a trail: where it is, and what can be in it.
type known struct {
	of          func(b *api.TrailBook) *api.Span
	least, most int
}

// spans are all kinds of spans of a trail.
func spans() map[string]known {
	return map[string]known{
		"Start":   {func(b *api.TrailBook) *api.Span { return &b.Start }, 0, 1439},
		"Walk":    {func(b *api.TrailBook) *api.Span { return &b.Stretches[1].Walk }, 1, 240},
		"Rest":    {func(b *api.TrailBook) *api.Span { return &b.Stretches[2].Rest }, 0, 120},
		"Shut":    {func(b *api.TrailBook) *api.Span { return &b.Stretches[1].Shut[0] }, 0, 4000},
		"Minutes": {func(b *api.TrailBook) *api.Span { return &b.Sights[1].Minutes }, 0, 4000},
	}
}

// want reports what a call returned, if it is not what was to be.
func want[T comparable](t *testing.T, call string, got T, e api.Errno, must T, code api.Errno) {
	t.Helper()
	if got != must || e != code {
		t.Errorf("%s: %v, error %d; not %v, error %d", call, got, e, must, code)
	}
}

// wantList does the same with lists.
func wantList[T comparable](t *testing.T, call string, got []T, e api.Errno, must []T, code api.Errno) {
	t.Helper()
	if !slices.Equal(got, must) || e != code {
		t.Errorf("%s: %v, error %d; not %v, error %d", call, got, e, must, code)
	}
}

// wantWhere does the same with what Where returns.
func wantWhere(t *testing.T, call string, b api.TrailBook, minute int, stretches, posts []int, code api.Errno) {
	t.Helper()
	s, p, e := trail.Where(b, minute)
	if !slices.Equal(s, stretches) || !slices.Equal(p, posts) || e != code {
		t.Errorf("%s: Where at %d: %v, %v, error %d; not %v, %v, error %d", call, minute, s, p, e, stretches, posts, code)
	}
}

// P4.1, R7: what is valid, up to its ends.
func TestCheckValid(t *testing.T) {
	good := map[string]api.TrailBook{
		"the trail of the chapter":  book(),
		"one that is false":         falseBook(),
		"the widest one":            widest(),
		"one stretch":               exact(0, 0, 1),
		"six sights at the ends":    free(slices.Repeat([]api.TrailSight{seen(3, 4000, 4000), away(0, 0, 0)}, 3)...),
		"no sights, but a list":     free([]api.TrailSight{}...),
		"no times, but a list":      shut([]api.Span{}...),
		"times that are just apart": shut(to(1, 2), to(4, 5), to(7, 4000)),
	}
	for what, s := range spans() {
		for _, span := range []api.Span{at(s.least), at(s.most), to(s.least, s.most)} {
			good[fmt.Sprint(what, " ", span)] = changed(func(b *api.TrailBook) { *s.of(b) = span })
		}
	}
	for what, b := range good {
		if e := trail.Check(b); e != api.OK {
			t.Errorf("%s: error %d", what, e)
		}
	}
}

// P4.1 to P4.7, P1, R1, R2: a trail that is not valid is the first error of all functions, with nothing else, whatever is asked.
func TestWrongBook(t *testing.T) {
	const e = api.ErrTrail
	for what, b := range wrongBooks() {
		if got := trail.Check(b); got != e {
			t.Errorf("Check, %s: error %d", what, got)
		}
		for _, walk := range [][]int{nil, {485}, {485, 485, 520, 530}} {
			is, got := trail.IsWalk(b, walk)
			want(t, "IsWalk, "+what, is, got, false, e)
			is, got = trail.IsTruth(b, walk)
			want(t, "IsTruth, "+what, is, got, false, e)
		}
		list, got := trail.Lies(b)
		wantList(t, "Lies, "+what, list, got, nil, e)
		list, got = trail.Wrong(b)
		wantList(t, "Wrong, "+what, list, got, nil, e)
		for _, n := range []int{0, 1, -1, 4, 4001, math.MinInt, math.MaxInt} {
			wantWhere(t, what, b, n, nil, nil, e)
			span, got := trail.Comes(b, n)
			want(t, "Comes, "+what, span, got, api.Span{}, e)
			sure, got := trail.Surely(b, n)
			want(t, "Surely, "+what, sure, got, 0, e)
			span, got = trail.Out(b, n, n)
			want(t, "Out, "+what, span, got, api.Span{}, e)
			post, got := trail.Ask(b, to(0, n), n)
			want(t, "Ask, "+what, post, got, 0, e)
		}
	}
}

// P4.2 to P4.5, P4.7, P1, R1, R2: a wrong question is the next error, also where there is no truth.
func TestWrongQuestion(t *testing.T) {
	const e = api.ErrTrailAsk
	for what, b := range map[string]api.TrailBook{"true": book(), "false": falseBook()} {
		for _, minute := range []int{-1, 4001, math.MinInt, math.MaxInt} {
			call := fmt.Sprintf("%s, at %d: ", what, minute)
			wantWhere(t, call, b, minute, nil, nil, e)
			span, got := trail.Out(b, 1, minute)
			want(t, call+"Out", span, got, api.Span{}, e)
			n, got := trail.Ask(b, to(0, 4000), minute)
			want(t, call+"Ask", n, got, 0, e)
		}
		for _, post := range []int{-1, 4, 6, math.MinInt, math.MaxInt} {
			call := fmt.Sprintf("%s, of %d: ", what, post)
			span, got := trail.Comes(b, post)
			want(t, call+"Comes", span, got, api.Span{}, e)
			n, got := trail.Surely(b, post)
			want(t, call+"Surely", n, got, 0, e)
		}
		for _, stretch := range []int{-1, 3, 6, math.MinInt, math.MaxInt} {
			for _, minute := range []int{600, -1, 4001} {
				span, got := trail.Out(b, stretch, minute)
				want(t, fmt.Sprintf("%s: Out of %d at %d", what, stretch, minute), span, got, api.Span{}, e)
			}
		}
		for _, minutes := range []api.Span{to(2, 1), to(-1, 1), to(0, 4001), at(-1), at(4001), to(math.MinInt, math.MaxInt), to(math.MaxInt, math.MinInt)} {
			for _, minute := range []int{700, -1} {
				n, got := trail.Ask(b, minutes, minute)
				want(t, fmt.Sprintf("%s: Ask of %v at %d", what, minutes, minute), n, got, 0, e)
			}
		}
	}
}

// P4.2 to P4.5, P4.7, R1, R2: where there is no truth nothing is told but that.
func TestNoTruth(t *testing.T) {
	const e = api.ErrTrailNot
	for what, b := range map[string]api.TrailBook{
		"of the chapter":                  falseBook(),
		"seen too soon":                   free(seen(1, 400, 509)),
		"seen too late":                   free(seen(1, 622, 4000)),
		"seen before the beginning":       free(seen(0, 0, 479)),
		"seen behind a rest":              free(seen(0, 496, 4000)),
		"seen before it can be reached":   free(seen(3, 0, 589)),
		"seen where shut times hold":      free(seen(2, 640, 660)),
		"not seen at the first post":      free(away(0, 480, 490)),
		"not seen at the last post":       free(seen(3, 0, 4000), away(3, 4000, 4000)),
		"not seen where one must be":      free(seen(2, 0, 4000), away(1, 500, 630)),
		"seen at two posts in one minute": free(seen(1, 520, 520), seen(2, 520, 520)),
		"two minutes that are too far":    free(seen(0, 480, 480), seen(0, 486, 486)),
		"seen, and not seen":              free(seen(3, 700, 700), away(3, 700, 700)),
	} {
		for _, minute := range []int{0, 485, 600, 4000} {
			wantWhere(t, what, b, minute, nil, nil, e)
			for stretch := range b.Stretches {
				span, got := trail.Out(b, stretch, minute)
				want(t, what+": Out", span, got, api.Span{}, e)
			}
			n, got := trail.Ask(b, to(0, 4000), minute)
			want(t, what+": Ask", n, got, 0, e)
		}
		for post := range len(b.Stretches) + 1 {
			span, got := trail.Comes(b, post)
			want(t, what+": Comes", span, got, api.Span{}, e)
			n, got := trail.Surely(b, post)
			want(t, what+": Surely", n, got, 0, e)
		}
		list, got := trail.Lies(b)
		wantList(t, what+": Lies", list, got, nil, e)
		is, got := trail.IsTruth(b, []int{485, 485, 520, 530})
		want(t, what+": IsTruth", is, got, false, api.OK)
		is, got = trail.IsWalk(b, []int{485, 485, 520, 530})
		want(t, what+": IsWalk", is, got, true, api.OK)
	}
}

// P4.1, P1: which lists are walks of the trail of the chapter, and which are truths of it.
func TestWalks(t *testing.T) {
	for _, x := range []struct {
		walk     []int
		is, true bool
	}{
		{[]int{485, 485, 520, 530}, true, true},
		{[]int{485, 485}, true, false},
		{[]int{485, 490, 530, 601}, true, false},
		{[]int{485, 485, 520, 530, 615, 615}, true, true},
		{[]int{485, 485, 520, 530, 600, 605, 630}, true, false},
		{[]int{485, 485, 520, 530, 615, 620, 650}, true, true},
		// as soon as can be, and as late
		{[]int{480, 480, 510, 510, 570, 570, 590}, true, false},
		{[]int{480, 480, 510, 515, 579, 589, 609}, true, true},
		{[]int{490, 495, 535, 601, 691, 701, 731}, true, false},
		{[]int{485, 485, 525, 601, 691, 701, 731}, true, true},
		// the sight at the post 2 says until when one was not there
		{[]int{490, 490, 525, 525, 590, 590}, true, false},
		{[]int{490, 490, 525, 525, 585, 589}, true, true},
		{[]int{490, 490, 525, 525, 585, 590}, true, false},
		{[]int{485, 485, 520, 530, 610, 611}, true, false},
		{[]int{485, 485, 520, 530, 611, 611}, true, true},
		// of no good length
		{nil, false, false},
		{[]int{485}, false, false},
		{[]int{485, 485, 520}, false, false},
		{[]int{485, 485, 520, 530, 615}, false, false},
		{[]int{485, 485, 520, 530, 615, 620, 650, 650}, false, false},
		{slices.Repeat([]int{485}, 1<<16), false, false},
		// a minute too soon, or too late
		{[]int{479, 479}, false, false},
		{[]int{491, 491}, false, false},
		{[]int{485, 484}, false, false},
		{[]int{485, 491}, false, false},
		{[]int{485, 485, 514, 514}, false, false},
		{[]int{485, 485, 526, 526}, false, false},
		{[]int{485, 485, 520, 541}, false, false},
		{[]int{485, 485, 520, 519}, false, false},
		{[]int{485, 485, 520, 530, 589, 589}, false, false},
		{[]int{485, 485, 520, 530, 621, 621}, false, false},
		{[]int{485, 485, 520, 530, 615, 620, 639}, false, false},
		{[]int{485, 485, 520, 530, 615, 620, 651}, false, false},
		// where the stretch is shut
		{[]int{490, 490, 520, 539}, true, true},
		{[]int{490, 490, 520, 540}, false, false},
		{[]int{490, 490, 520, 601}, true, true},
		{[]int{490, 490, 519, 601}, false, false},
		{[]int{490, 490, 520, 600}, false, false},
		{[]int{490, 490, 520, 602}, false, false},
		// numbers far away
		{[]int{math.MinInt, math.MinInt}, false, false},
		{[]int{math.MaxInt, math.MaxInt}, false, false},
		{[]int{485, math.MinInt}, false, false},
		{[]int{485, math.MaxInt}, false, false},
		{[]int{485, 485, math.MinInt, 530}, false, false},
		{[]int{485, 485, math.MaxInt, 530}, false, false},
		{[]int{485, 485, 520, 530, 615, 620, math.MinInt}, false, false},
		{[]int{485, 485, 520, 530, 615, 620, math.MaxInt}, false, false},
	} {
		is, e := trail.IsWalk(book(), x.walk)
		want(t, fmt.Sprint("IsWalk: ", x.walk[:min(9, len(x.walk))]), is, e, x.is, api.OK)
		is, e = trail.IsTruth(book(), x.walk)
		want(t, fmt.Sprint("IsTruth: ", x.walk[:min(9, len(x.walk))]), is, e, x.true, api.OK)
	}
}

// P4.1: a stretch that is shut is left in the first minute behind, whatever the rest was.
func TestWaits(t *testing.T) {
	twice := shut(to(480, 485), to(487, 490))
	late := shut(to(0, 0), to(470, 4000))
	late.Stretches[0].Rest = to(3, 120)
	for i, x := range []struct {
		b    api.TrailBook
		walk []int
		must bool
	}{
		{twice, []int{480, 486}, true},
		{twice, []int{483, 486}, true},
		{twice, []int{486, 486}, true},
		{twice, []int{482, 491}, true},
		{twice, []int{480, 491}, false},
		{twice, []int{486, 491}, true},
		{twice, []int{490, 491}, true},
		{twice, []int{490, 495}, true},
		{twice, []int{490, 496}, false},
		{twice, []int{480, 480}, false},
		{twice, []int{484, 487}, false},
		{late, []int{480, 4001}, true},
		{late, []int{490, 4001}, true},
		{late, []int{490, 4001, 4041, 4061}, true},
		{late, []int{490, 4002}, false},
		{late, []int{490, 610}, false},
	} {
		is, e := trail.IsWalk(x.b, x.walk)
		want(t, fmt.Sprint("IsWalk ", i, ": ", x.walk), is, e, x.must, api.OK)
		is, e = trail.IsTruth(x.b, x.walk)
		want(t, fmt.Sprint("IsTruth ", i, ": ", x.walk), is, e, x.must, api.OK)
	}
}

// P4.1: what a sight says, at the ends of its minutes, and where a post is not reached.
func TestRight(t *testing.T) {
	whole := []int{480, 485, 515, 525, 600, 605, 630}
	stays := []int{480, 485, 515, 525}
	for i, x := range []struct {
		walk []int
		s    api.TrailSight
		must bool
	}{
		{whole, seen(0, 0, 480), true},
		{whole, seen(0, 0, 479), false},
		{whole, seen(0, 482, 483), true},
		{whole, seen(0, 485, 4000), true},
		{whole, seen(0, 486, 4000), false},
		{whole, away(0, 0, 479), true},
		{whole, away(0, 0, 480), false},
		{whole, away(0, 482, 483), false},
		{whole, away(0, 485, 485), false},
		{whole, away(0, 486, 486), true},
		{whole, seen(1, 486, 514), false},
		{whole, seen(1, 486, 515), true},
		{whole, seen(1, 525, 599), true},
		{whole, seen(1, 526, 599), false},
		{whole, seen(3, 0, 630), true},
		{whole, seen(3, 0, 629), false},
		{whole, seen(3, 4000, 4000), true},
		{whole, away(3, 0, 629), true},
		{whole, away(3, 630, 630), false},
		{whole, away(3, 4000, 4000), false},
		{stays, seen(1, 525, 525), true},
		{stays, away(1, 525, 525), false},
		{stays, away(1, 526, 4000), true},
		{stays, seen(2, 0, 4000), false},
		{stays, away(2, 0, 4000), true},
		{stays, seen(3, 0, 4000), false},
		{stays, away(3, 0, 4000), true},
	} {
		is, e := trail.IsTruth(free(x.s), x.walk)
		want(t, fmt.Sprintf("IsTruth %d: %v", i, x.s), is, e, x.must, api.OK)
		is, e = trail.IsWalk(free(x.s), x.walk)
		want(t, fmt.Sprintf("IsWalk %d: %v", i, x.s), is, e, true, api.OK)
	}
}

// P4.2: on which stretches, and at which posts.
func TestWhere(t *testing.T) {
	step := exact(10, 3, 1, 0, 5)
	for i, x := range []struct {
		b                api.TrailBook
		minute           int
		stretches, posts []int
	}{
		{book(), 550, []int{1}, []int{1}},
		{book(), 600, []int{1, 2}, []int{1, 3}},
		{book(), 505, []int{0}, nil},
		{book(), 0, nil, nil},
		{book(), 479, nil, nil},
		{book(), 480, nil, []int{0}},
		{book(), 481, []int{0}, []int{0}},
		{book(), 525, []int{1}, []int{1}},
		{book(), 575, []int{1}, []int{1, 2}},
		{book(), 594, []int{1, 2}, []int{1}},
		{book(), 602, []int{1, 2}, []int{3}},
		{book(), 611, []int{1, 2}, []int{2, 3}},
		{book(), 4000, []int{1, 2}, []int{3}},
		{free(), 600, []int{0, 1, 2}, []int{1, 2, 3}},
		{free(seen(3, 590, 590)), 575, []int{2}, nil},
		{free(seen(3, 590, 590)), 589, []int{2}, nil},
		{free(seen(3, 590, 590)), 590, nil, []int{3}},
		{free(seen(3, 0, 4000)), 4000, nil, []int{3}},
		// a stretch of one minute has none in which one is on it
		{with(step, seen(2, 0, 4000)), 9, nil, nil},
		{with(step, seen(2, 0, 4000)), 10, nil, []int{0}},
		{with(step, seen(2, 0, 4000)), 13, nil, []int{0}},
		{with(step, seen(2, 0, 4000)), 14, nil, []int{1}},
		{with(step, seen(2, 0, 4000)), 15, []int{1}, nil},
		{with(step, seen(2, 0, 4000)), 18, []int{1}, nil},
		{with(step, seen(2, 0, 4000)), 19, nil, []int{2}},
		{with(step, away(1, 0, 4000)), 13, nil, []int{0}},
		{with(step, away(1, 0, 4000)), 14, []int{0}, nil},
		{with(step, away(1, 0, 4000)), 4000, []int{0}, nil},
		{step, 19, []int{0, 1}, []int{2}},
	} {
		wantWhere(t, fmt.Sprint(i), x.b, x.minute, x.stretches, x.posts, api.OK)
	}
}

// P4.3, P4.4: when a post is reached, and how surely.
func TestComes(t *testing.T) {
	late := shut(to(470, 4000))
	for i, x := range []struct {
		b    api.TrailBook
		post int
		must api.Span
		sure int
		e    api.Errno
	}{
		{book(), 0, to(480, 490), 2, api.OK},
		{book(), 1, to(510, 525), 2, api.OK},
		{book(), 2, to(575, 691), 1, api.OK},
		{book(), 3, to(595, 731), 1, api.OK},
		{free(), 0, to(480, 490), 2, api.OK},
		{free(), 1, to(510, 535), 1, api.OK},
		{free(), 2, to(570, 691), 1, api.OK},
		{free(), 3, to(590, 731), 1, api.OK},
		{free(away(1, 0, 4000)), 0, to(480, 490), 2, api.OK},
		{free(away(1, 0, 4000)), 1, api.Span{}, 0, api.ErrNone},
		{free(away(1, 0, 4000)), 3, api.Span{}, 0, api.ErrNone},
		{free(away(2, 0, 4000)), 1, to(510, 535), 1, api.OK},
		{free(away(2, 0, 4000)), 2, api.Span{}, 0, api.ErrNone},
		{free(seen(3, 0, 4000)), 2, to(570, 691), 2, api.OK},
		{free(seen(3, 590, 590)), 0, at(480), 2, api.OK},
		{free(seen(3, 590, 590)), 2, at(570), 2, api.OK},
		{free(seen(3, 590, 590)), 3, at(590), 2, api.OK},
		{free(seen(2, 691, 691)), 3, to(711, 731), 1, api.OK},
		{free(seen(2, 701, 701)), 2, at(691), 2, api.OK},
		{free(away(3, 600, 4000)), 3, api.Span{}, 0, api.ErrNone},
		{late, 1, to(4031, 4041), 1, api.OK},
		{late, 3, to(4111, 4191), 1, api.OK},
		{with(late, away(3, 0, 4000)), 3, to(4111, 4191), 1, api.OK},
		{with(late, away(1, 0, 4000)), 1, to(4031, 4041), 1, api.OK},
		{widest(), 0, to(0, 1439), 2, api.OK},
		{widest(), 6, to(4005, 6041), 1, api.OK},
	} {
		came, e := trail.Comes(x.b, x.post)
		want(t, fmt.Sprintf("Comes %d to %d", i, x.post), came, e, x.must, x.e)
		n, e := trail.Surely(x.b, x.post)
		want(t, fmt.Sprintf("Surely %d of %d", i, x.post), n, e, x.sure, api.OK)
	}
}

// P4.4: the stretches on which the traveller can have stayed.
func TestLies(t *testing.T) {
	for i, x := range []struct {
		b    api.TrailBook
		must []int
	}{
		{book(), []int{1, 2}},
		{free(), []int{0, 1, 2}},
		{free(seen(3, 0, 4000)), nil},
		{free(seen(2, 0, 4000)), []int{2}},
		{free(seen(1, 0, 4000)), []int{1, 2}},
		{free(seen(0, 0, 4000)), []int{0, 1, 2}},
		{free(away(1, 0, 4000)), []int{0}},
		{free(away(2, 0, 4000)), []int{0, 1}},
		{free(away(3, 0, 4000)), []int{0, 1, 2}},
		{free(seen(1, 0, 4000), away(3, 0, 4000)), []int{1, 2}},
		{free(seen(1, 0, 4000), away(2, 0, 4000)), []int{1}},
		{widest(), []int{0, 1, 2, 3, 4, 5}},
	} {
		list, e := trail.Lies(x.b)
		wantList(t, fmt.Sprint("Lies ", i), list, e, x.must, api.OK)
	}
}

// P4.5: how long the traveller has been on a stretch.
func TestOut(t *testing.T) {
	for i, x := range []struct {
		b               api.TrailBook
		stretch, minute int
		must            api.Span
		e               api.Errno
	}{
		{book(), 1, 600, to(61, 85), api.OK},
		{book(), 0, 600, api.Span{}, api.ErrNone},
		{book(), 1, 601, to(62, 86), api.OK},
		{book(), 1, 602, to(1, 87), api.OK},
		{book(), 0, 505, to(10, 25), api.OK},
		{book(), 0, 480, api.Span{}, api.ErrNone},
		{book(), 0, 481, at(1), api.OK},
		{book(), 2, 594, to(5, 19), api.OK},
		{book(), 0, 0, api.Span{}, api.ErrNone},
		{free(), 0, 4000, to(3505, 3520), api.OK},
		{free(), 1, 4000, to(3399, 3490), api.OK},
		{free(seen(3, 590, 590)), 2, 589, at(19), api.OK},
		{free(seen(3, 590, 590)), 2, 590, api.Span{}, api.ErrNone},
		{free(seen(3, 590, 590)), 2, 570, api.Span{}, api.ErrNone},
		{free(seen(3, 590, 590)), 2, 571, at(1), api.OK},
		{exact(10, 3, 1, 0, 5), 0, 13, api.Span{}, api.ErrNone},
		{exact(10, 3, 1, 0, 5), 0, 14, at(1), api.OK},
		{with(exact(10, 3, 1, 0, 5), seen(1, 14, 14)), 0, 14, api.Span{}, api.ErrNone},
	} {
		long, e := trail.Out(x.b, x.stretch, x.minute)
		want(t, fmt.Sprintf("Out %d of %d at %d", i, x.stretch, x.minute), long, e, x.must, x.e)
	}
}

// P4.6, R6: the fewest sights, of several lists the first one.
func TestWrong(t *testing.T) {
	never := seen(3, 0, 0)
	for i, x := range []struct {
		b    api.TrailBook
		must []int
	}{
		{free(), nil},
		{book(), nil},
		{falseBook(), []int{0}},
		{book(away(1, 500, 540), away(1, 510, 530)), []int{0}},
		{free(seen(1, 400, 409)), []int{0}},
		{free(seen(0, 491, 600), seen(3, 590, 590)), []int{0}},
		{free(seen(3, 0, 4000), away(3, 0, 4000)), []int{0}},
		{free(away(3, 0, 4000), seen(3, 0, 4000)), []int{0}},
		{free(seen(2, 570, 570), seen(2, 691, 691), seen(1, 601, 601)), []int{0}},
		{free(seen(2, 570, 570), away(1, 510, 510), seen(0, 480, 480), seen(3, 700, 700)), []int{0}},
		{free(away(1, 510, 510), seen(2, 570, 570), never), []int{0, 2}},
		{free(never, away(0, 480, 490), seen(1, 520, 520)), []int{0, 1}},
		{free(never, seen(1, 520, 520), never, never), []int{0, 2, 3}},
		// either of both pairs would do
		{free(seen(1, 515, 515), away(1, 510, 530), away(1, 510, 530), seen(1, 515, 515)), []int{0, 3}},
		{free(away(3, 700, 700), seen(3, 700, 700), seen(2, 570, 570), away(2, 570, 570)), []int{0, 2}},
		{free(slices.Repeat([]api.TrailSight{never}, 6)...), []int{0, 1, 2, 3, 4, 5}},
	} {
		list, e := trail.Wrong(x.b)
		wantList(t, fmt.Sprint("Wrong ", i), list, e, x.must, api.OK)
	}
}

// P4.7, R6: the post that is asked, of several ones the first one.
func TestAsk(t *testing.T) {
	fast := exact(0, 0, 10, 0, 10)
	fast.Stretches[0].Walk = to(10, 100)
	for i, x := range []struct {
		b       api.TrailBook
		minutes api.Span
		minute  int
		must    int
	}{
		{book(), to(0, 4000), 700, 2},
		{book(), to(0, 400), 700, 0},
		{free(), to(0, 4000), 505, 0},
		{free(), to(0, 4000), 4000, 1},
		{free(), to(0, 0), 4000, 0},
		{free(), at(4000), 4000, 0},
		{free(), at(0), 0, 0},
		{exact(10, 3, 1, 0, 5), to(0, 4000), 100, 1},
		{exact(10, 3, 1, 0, 5), to(14, 14), 100, 1},
		{exact(10, 3, 1, 0, 5), to(15, 19), 100, 0},
		{exact(10, 3, 1, 0, 5, 0, 1), to(15, 4000), 100, 2},
		// who surely came to the last post was fast, or slow
		{with(fast, seen(2, 0, 4000)), at(60), 50, 2},
		{with(fast, seen(2, 0, 4000)), at(4000), 50, 0},
		// six sights, and one more that is asked for
		{book(seen(0, 0, 4000), seen(0, 0, 4000), seen(0, 0, 4000), seen(0, 0, 4000)), to(0, 4000), 700, 2},
	} {
		n, e := trail.Ask(x.b, x.minutes, x.minute)
		want(t, fmt.Sprint("Ask ", i), n, e, x.must, api.OK)
	}
}

// R3: between a nil list and an empty one there is no difference.
func TestEmptyLists(t *testing.T) {
	one, other := free(), free([]api.TrailSight{}...)
	for i := range other.Stretches {
		if other.Stretches[i].Shut == nil {
			other.Stretches[i].Shut = []api.Span{}
		}
	}
	if a, b := askAll(one), askAll(other); a != b {
		t.Errorf("%s with nil lists; with empty ones %s", a, b)
	}
	for _, walk := range [][]int{nil, {}} {
		is, e := trail.IsWalk(one, walk)
		want(t, "IsWalk", is, e, false, api.OK)
	}
}

// What the limits and errors of package api are.
func TestGiven(t *testing.T) {
	given := []int{api.TrailStretches, api.TrailPace, api.TrailRest, api.TrailShut, api.TrailSights, api.TrailMinute, api.TrailLate}
	codes := []api.Errno{api.ErrNone, api.ErrTrail, api.ErrTrailAsk, api.ErrTrailNot}
	if !slices.Equal(given, []int{6, 240, 120, 3, 6, 1439, 4000}) || !slices.Equal(codes, []api.Errno{4, 40, 41, 42}) {
		t.Error("package api is not as it was given")
	}
}
