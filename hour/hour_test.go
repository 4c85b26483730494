package hour_test

import (
	"math"
	"slices"
	"testing"

	"aflaj/api"
	"aflaj/hour"
)

func span(lo, hi int) api.Span { return api.Span{Lo: lo, Hi: hi} }

func mark(which int) api.Telling { return api.Telling{Kind: api.TellMark, Which: which} }

func between(which int) api.Telling { return api.Telling{Kind: api.TellBetween, Which: which} }

func star(which, hands int) api.Telling {
	return api.Telling{Kind: api.TellStar, Which: which, Hands: hands}
}

func word(lo, hi int) api.Telling { return api.Telling{Kind: api.TellWord, Word: span(lo, hi)} }

func told(l ...api.Telling) []api.Telling { return l }

// full is a change at the end of some bowls, after one more was sinking if it is not full.
func full(bowls int, l ...api.Telling) api.Change {
	return api.Change{Told: l, Bowls: bowls, Full: true}
}

func sinking(bowls int, l ...api.Telling) api.Change { return api.Change{Told: l, Bowls: bowls} }

func night(l ...api.Change) []api.Change { return l }

// example is the clock of the chapter's examples.
func example() api.Clock {
	return api.Clock{
		Marks: []api.Span{span(360, 362), span(420, 424), span(480, 483)},
		Stars: []api.Star{{Rise: span(1200, 1202), Shift: span(3900, 4000)}},
		Hand:  span(15000, 16000),
		Sinks: span(24000, 25000),
	}
}

func wantTell(t *testing.T, k api.Clock, day int, l api.Telling, e api.Errno, want api.Span) {
	t.Helper()
	if got, f := hour.Tell(k, day, l); got != want || f != e {
		t.Errorf("Tell %v %v %v: %v %v, want %v %v", k, day, l, got, f, want, e)
	}
}

func wantAll(t *testing.T, k api.Clock, day int, l []api.Telling, e api.Errno, want api.Span) {
	t.Helper()
	if got, f := hour.All(k, day, l); got != want || f != e {
		t.Errorf("All %v %v %v: %v %v, want %v %v", k, day, l, got, f, want, e)
	}
}

func wantClash(t *testing.T, k api.Clock, day int, l []api.Telling, e api.Errno, first, second int) {
	t.Helper()
	if i, j, f := hour.Clash(k, day, l); i != first || j != second || f != e {
		t.Errorf("Clash %v %v %v: %v %v %v, want %v %v %v", k, day, l, i, j, f, first, second, e)
	}
}

func wantBefore(t *testing.T, k api.Clock, day int, a, b []api.Telling, e api.Errno, want uint8) {
	t.Helper()
	if got, f := hour.Before(k, day, a, b); got != want || f != e {
		t.Errorf("Before %v %v %v %v: %v %v, want %v %v", k, day, a, b, got, f, want, e)
	}
}

func wantNight(t *testing.T, k api.Clock, day int, l []api.Change, want ...api.Span) {
	t.Helper()
	if got, at, f := hour.Night(k, day, l); !slices.Equal(got, want) || at != 0 || f != api.OK {
		t.Errorf("Night %v %v %v: %v %v %v, want %v", k, day, l, got, at, f, want)
	}
}

func wantNoNight(t *testing.T, k api.Clock, day int, l []api.Change, e api.Errno, at int) {
	t.Helper()
	if got, i, f := hour.Night(k, day, l); len(got) != 0 || i != at || f != e {
		t.Errorf("Night %v %v %v: %v %v %v, want %v %v", k, day, l, got, i, f, at, e)
	}
}

func wantOn(t *testing.T, turns []api.Turn, at api.Span, e api.Errno, sure int, may ...int) {
	t.Helper()
	if got, one, f := hour.On(turns, at); !slices.Equal(got, may) || one != sure || f != e {
		t.Errorf("On %v %v: %v %v %v, want %v %v %v", turns, at, got, one, f, may, sure, e)
	}
}

func TestExamples(t *testing.T) {
	k := example()
	if e := hour.Check(k); e != api.OK {
		t.Error(e)
	}
	wantTell(t, k, 10, mark(1), api.OK, span(420, 424))
	wantTell(t, k, 10, between(1), api.OK, span(420, 483))
	wantTell(t, k, 10, star(0, 2), api.OK, span(1190, 1195))
	wantAll(t, k, 10, told(mark(1), word(422, 500)), api.OK, span(422, 424))
	wantAll(t, k, 10, told(mark(1), word(425, 500)), api.ErrClash, api.Span{})
	wantClash(t, k, 10, told(word(400, 421), mark(1), word(423, 430)), api.OK, 0, 2)
	wantBefore(t, k, 10, told(mark(0)), told(mark(1)), api.OK, api.KnownYes)
	wantBefore(t, k, 10, told(mark(1)), told(word(424, 430)), api.OK, api.KnownOpen)
	wantBefore(t, k, 10, told(mark(1)), told(word(400, 420)), api.OK, api.KnownNo)
	wantNight(t, k, 10, night(full(0, word(0, 10)), sinking(2, word(40, 60)), full(1, word(85, 90))), span(0, 10), span(60, 60), span(85, 85))
	turns := []api.Turn{{From: 0, To: 30}, {From: 30, To: 60}, {From: 90, To: 120}}
	wantOn(t, turns, span(20, 40), api.OK, -1, 0, 1)
	wantOn(t, turns, span(30, 59), api.OK, 1, 1)
	wantOn(t, turns, span(70, 80), api.OK, -1)
}

// wrongSpans are no spans of numbers from low to high.
func wrongSpans(low, high int) []api.Span {
	return []api.Span{
		span(low+1, low), span(high, high-1), span(low-1, low), span(low-1, low-1), span(high, high+1), span(high+1, high+1),
		span(low-1, high+1), span(math.MinInt, low), span(high, math.MaxInt), span(math.MinInt, math.MaxInt),
		span(math.MaxInt, math.MinInt), span(math.MinInt, math.MinInt), span(math.MaxInt, math.MaxInt),
	}
}

// invalidClocks are the example with something that is not valid.
func invalidClocks() []api.Clock {
	var all []api.Clock
	wrong := func(change func(k *api.Clock)) {
		k := example()
		change(&k)
		all = append(all, k)
	}
	for _, s := range wrongSpans(-100000, 100000) {
		wrong(func(k *api.Clock) { k.Marks = []api.Span{s} })
		wrong(func(k *api.Clock) { k.Marks[2] = s })
		wrong(func(k *api.Clock) { k.Stars[0].Rise = s })
		wrong(func(k *api.Clock) { k.Stars = append(k.Stars, api.Star{Rise: s}) })
	}
	for _, s := range wrongSpans(0, 10000) {
		wrong(func(k *api.Clock) { k.Stars[0].Shift = s })
	}
	for _, s := range wrongSpans(0, 60000) {
		wrong(func(k *api.Clock) { k.Hand = s })
	}
	for _, s := range append(wrongSpans(1000, 100000), span(0, 0)) {
		wrong(func(k *api.Clock) { k.Sinks = s })
	}
	// Marks out of order, by their Lo or their Hi.
	wrong(func(k *api.Clock) { k.Marks[1].Lo = 359 })
	wrong(func(k *api.Clock) { k.Marks[2].Lo = 419 })
	wrong(func(k *api.Clock) { k.Marks[2] = span(420, 423) })
	wrong(func(k *api.Clock) { k.Marks[0].Hi = 425 })
	wrong(func(k *api.Clock) { k.Marks = []api.Span{span(5, 5), span(-5, 5)} })
	wrong(func(k *api.Clock) { k.Marks = slices.Repeat(k.Marks[:1], 25) })
	wrong(func(k *api.Clock) { k.Stars = slices.Repeat(k.Stars, 13) })
	wrong(func(k *api.Clock) { *k = api.Clock{} })
	return all
}

// wantErrors checks that each function with a clock returns an error for some arguments, and nothing beside it.
func wantErrors(t *testing.T, k api.Clock, day int, one api.Telling, l []api.Telling, changes []api.Change, e api.Errno) {
	t.Helper()
	wantTell(t, k, day, one, e, api.Span{})
	wantAll(t, k, day, l, e, api.Span{})
	wantClash(t, k, day, l, e, 0, 0)
	wantBefore(t, k, day, l, l, e, 0)
	wantNoNight(t, k, day, changes, e, 0)
}

// wrongOnes are tellings that are not valid by the example.
func wrongOnes() []api.Telling {
	var all []api.Telling
	for _, kind := range []uint8{0, 5, 6, 128, 255} {
		all = append(all, api.Telling{Kind: kind})
	}
	for _, which := range []int{-1, 3, 4, math.MinInt, math.MaxInt} {
		all = append(all, mark(which), between(which), star(which, 0))
	}
	all = append(all, between(2), star(1, 0), star(2, 0))
	for _, hands := range []int{-1, 21, math.MinInt, math.MaxInt} {
		all = append(all, star(0, hands))
	}
	for _, s := range wrongSpans(-100000, 100000) {
		all = append(all, word(s.Lo, s.Hi))
	}
	return all
}

// manyTellings are lists with more than there may be.
func manyTellings() [][]api.Telling {
	return [][]api.Telling{slices.Repeat(told(word(1, 2)), 11), slices.Repeat(told(word(2, 1)), 11), make([]api.Telling, 1000)}
}

func TestInvalidClocks(t *testing.T) {
	bad := word(2, 1)
	for _, k := range invalidClocks() {
		if e := hour.Check(k); e != api.ErrClock {
			t.Errorf("Check %v: %v", k, e)
		}
		wantErrors(t, k, 10, mark(0), told(mark(0)), night(full(0)), api.ErrClock)
		wantErrors(t, k, -1, bad, told(bad), night(sinking(1, bad)), api.ErrClock)
		wantErrors(t, k, 10, bad, nil, make([]api.Change, 21), api.ErrClock)
	}
}

func TestValidClocks(t *testing.T) {
	least := api.Clock{Hand: span(0, 0), Sinks: span(1000, 1000)}
	most := api.Clock{
		Marks: slices.Repeat([]api.Span{span(-100000, 100000)}, 24),
		Stars: slices.Repeat([]api.Star{{Rise: span(-100000, 100000), Shift: span(0, 10000)}}, 12),
		Hand:  span(0, 60000),
		Sinks: span(1000, 100000),
	}
	empty := least
	empty.Marks, empty.Stars = []api.Span{}, []api.Star{}
	highest := api.Clock{Marks: []api.Span{span(-100000, -100000), span(100000, 100000)}, Hand: span(60000, 60000), Sinks: span(100000, 100000)}
	// Marks that differ in one of their ends, or in none; marks may meet, and stars are in no order.
	touching := example()
	touching.Marks = []api.Span{span(-3, 0), span(-3, 1), span(-2, 1), span(-2, 1), span(1, 1)}
	touching.Stars = []api.Star{{Rise: span(9, 9)}, {Rise: span(-9, 9), Shift: span(10000, 10000)}}
	for _, k := range []api.Clock{least, empty, most, highest, touching} {
		if e := hour.Check(k); e != api.OK {
			t.Errorf("Check %v: %v", k, e)
		}
		wantTell(t, k, 0, word(-100000, 100000), api.OK, span(-100000, 100000))
	}
	// A clock without marks and stars tells nothing by them.
	for _, l := range []api.Telling{mark(0), between(0), star(0, 0), between(-1)} {
		wantTell(t, least, 0, l, api.ErrTelling, api.Span{})
		wantTell(t, empty, 0, l, api.ErrTelling, api.Span{})
	}
	one := api.Clock{Marks: []api.Span{span(5, 7)}, Sinks: span(1000, 1000)}
	wantTell(t, one, 0, mark(0), api.OK, span(5, 7))
	wantTell(t, one, 0, between(0), api.ErrTelling, api.Span{})
}

func TestInvalidDays(t *testing.T) {
	bad := word(2, 1)
	for _, day := range []int{-1, 100001, math.MinInt, math.MaxInt} {
		wantErrors(t, example(), day, mark(1), told(mark(1)), night(full(0)), api.ErrArg)
		wantErrors(t, example(), day, bad, told(bad), night(sinking(1, bad)), api.ErrArg)
		wantErrors(t, example(), day, bad, nil, make([]api.Change, 21), api.ErrArg)
		wantErrors(t, example(), day, bad, make([]api.Telling, 11), nil, api.ErrArg)
	}
	for _, day := range []int{0, 100000} {
		wantTell(t, example(), day, mark(1), api.OK, span(420, 424))
	}
}

func TestInvalidTellings(t *testing.T) {
	k := example()
	for _, bad := range wrongOnes() {
		wantTell(t, k, 10, bad, api.ErrTelling, api.Span{})
		// Also beside others that clash.
		for _, l := range [][]api.Telling{told(bad), told(mark(1), bad), told(bad, mark(1)), told(mark(0), mark(1), bad)} {
			wantAll(t, k, 10, l, api.ErrTelling, api.Span{})
			wantClash(t, k, 10, l, api.ErrTelling, 0, 0)
			wantBefore(t, k, 10, l, nil, api.ErrTelling, 0)
			wantBefore(t, k, 10, told(mark(1)), l, api.ErrTelling, 0)
			wantNoNight(t, k, 10, night(full(0, l...)), api.ErrChange, 0)
			wantNoNight(t, k, 10, night(full(0), full(1), full(1, l...), full(201)), api.ErrChange, 2)
		}
	}
	for _, l := range manyTellings() {
		wantAll(t, k, 10, l, api.ErrMany, api.Span{})
		wantClash(t, k, 10, l, api.ErrMany, 0, 0)
		wantBefore(t, k, 10, l, told(word(2, 1)), api.ErrMany, 0)
		wantBefore(t, k, 10, told(mark(1)), l, api.ErrMany, 0)
		wantNoNight(t, k, 10, night(full(0, l...)), api.ErrChange, 0)
		wantNoNight(t, k, 10, night(full(0), full(1, l...)), api.ErrChange, 1)
	}
	for _, l := range [][]api.Telling{nil, {}} {
		wantAll(t, k, 10, l, api.ErrNone, api.Span{})
		wantClash(t, k, 10, l, api.ErrNone, 0, 0)
		wantBefore(t, k, 10, l, told(word(2, 1)), api.ErrNone, 0)
		wantBefore(t, k, 10, told(mark(1)), l, api.ErrNone, 0)
	}
}

// TestErrorsOfBothLists checks that all errors of the first list come before those of the second one.
func TestErrorsOfBothLists(t *testing.T) {
	lists := []struct {
		l []api.Telling
		e api.Errno
	}{
		{make([]api.Telling, 11), api.ErrMany},
		{told(word(2, 1)), api.ErrTelling},
		{nil, api.ErrNone},
		{told(mark(0), mark(1)), api.ErrClash},
		{told(mark(1)), api.OK},
	}
	for _, a := range lists {
		for _, b := range lists {
			want, known := a.e, uint8(0)
			if want == api.OK {
				want = b.e
			}
			if want == api.OK {
				known = api.KnownOpen
			}
			wantBefore(t, example(), 10, a.l, b.l, want, known)
		}
	}
}

// TestOtherNumbersDoNotMatter checks tellings with numbers that their kinds do not have.
func TestOtherNumbersDoNotMatter(t *testing.T) {
	wild, odd := span(math.MaxInt, math.MinInt), math.MinInt
	wantTell(t, example(), 10, api.Telling{Kind: api.TellMark, Which: 1, Hands: odd, Word: wild}, api.OK, span(420, 424))
	wantTell(t, example(), 10, api.Telling{Kind: api.TellBetween, Which: 1, Hands: odd, Word: wild}, api.OK, span(420, 483))
	wantTell(t, example(), 10, api.Telling{Kind: api.TellStar, Hands: 2, Word: wild}, api.OK, span(1190, 1195))
	wantTell(t, example(), 10, api.Telling{Kind: api.TellWord, Which: odd, Hands: odd, Word: span(3, 4)}, api.OK, span(3, 4))
}

func TestStars(t *testing.T) {
	k := example()
	for _, x := range []struct {
		rise, shift, hand api.Span
		day, hands        int
		want              api.Span
	}{
		// What is no whole minute is told down, and up.
		{span(100, 100), span(1, 1), span(0, 0), 1, 0, span(99, 100)},
		{span(100, 100), span(999, 999), span(0, 0), 1, 0, span(99, 100)},
		{span(100, 100), span(1000, 1000), span(0, 0), 1, 0, span(99, 99)},
		{span(100, 100), span(1001, 1001), span(0, 0), 1, 0, span(98, 99)},
		{span(100, 100), span(0, 0), span(1, 1), 1, 1, span(100, 101)},
		{span(100, 100), span(0, 0), span(999, 1001), 1, 1, span(100, 102)},
		{span(100, 100), span(0, 0), span(500, 500), 1, 2, span(101, 101)},
		// The day and the hands are put together before they are rounded.
		{span(100, 100), span(500, 500), span(500, 500), 1, 1, span(100, 100)},
		{span(100, 100), span(400, 400), span(300, 300), 1, 1, span(99, 100)},
		{span(100, 100), span(300, 300), span(400, 400), 1, 1, span(100, 101)},
		{span(100, 103), span(300, 400), span(50, 60), 2, 7, span(99, 103)},
		// It rises no earlier on the day 0, and a hand takes nothing of no hands.
		{span(100, 103), span(0, 10000), span(0, 60000), 0, 0, span(100, 103)},
		{span(100, 103), span(300, 400), span(0, 60000), 10, 0, span(96, 100)},
		// Earlier each day: below 0, too.
		{span(0, 0), span(1, 1), span(0, 0), 1, 0, span(-1, 0)},
		{span(0, 0), span(1000, 1000), span(0, 0), 1, 0, span(-1, -1)},
		{span(0, 0), span(1001, 1001), span(0, 0), 1, 0, span(-2, -1)},
		{span(-5, 5), span(1500, 2500), span(0, 0), 3, 0, span(-13, 1)},
		{span(-5, 5), span(0, 0), span(200, 5001), 3, 1, span(-5, 11)},
		{span(-5, -5), span(0, 0), span(200, 5001), 3, 1, span(-5, 1)},
		{span(-5, -5), span(0, 0), span(200, 4999), 3, 1, span(-5, 0)},
		{span(-5, -5), span(0, 0), span(200, 3999), 3, 1, span(-5, -1)},
		{span(-5, -5), span(0, 0), span(200, 4000), 3, 1, span(-5, -1)},
		// The greatest numbers.
		{span(-100000, 100000), span(0, 10000), span(0, 60000), 100000, 20, span(-1100000, 101200)},
		{span(-100000, -100000), span(10000, 10000), span(0, 0), 100000, 20, span(-1100000, -1100000)},
		{span(100000, 100000), span(0, 0), span(60000, 60000), 100000, 20, span(101200, 101200)},
	} {
		k.Stars[0], k.Hand = api.Star{Rise: x.rise, Shift: x.shift}, x.hand
		wantTell(t, k, x.day, star(0, x.hands), api.OK, x.want)
		wantAll(t, k, x.day, told(star(0, x.hands)), api.OK, x.want)
	}
	k = example()
	k.Stars = append(k.Stars, api.Star{Rise: span(7, 8), Shift: span(1000, 1000)})
	wantTell(t, k, 3, star(1, 0), api.OK, span(4, 5))
	wantTell(t, k, 0, star(0, 20), api.OK, span(1500, 1522))
}

func TestMarks(t *testing.T) {
	k := example()
	for day := range 3 {
		wantTell(t, k, day, mark(0), api.OK, span(360, 362))
		wantTell(t, k, day, mark(2), api.OK, span(480, 483))
		wantTell(t, k, day, between(0), api.OK, span(360, 424))
	}
	k.Marks = []api.Span{span(-100000, -7), span(-5, -4), span(-5, 99999)}
	wantTell(t, k, 0, mark(0), api.OK, span(-100000, -7))
	wantTell(t, k, 0, between(0), api.OK, span(-100000, -4))
	wantTell(t, k, 0, between(1), api.OK, span(-5, 99999))
	wantTell(t, k, 0, word(-7, -7), api.OK, span(-7, -7))
}

// halves is a clock whose stars rise half a minute before and after the minute 10, and 0, or a thousandth before and after it.
func halves() api.Clock {
	k := example()
	k.Stars = []api.Star{
		{Rise: span(11, 11), Shift: span(1500, 1500)}, {Rise: span(11, 11), Shift: span(500, 500)},
		{Rise: span(1, 1), Shift: span(1500, 1500)}, {Rise: span(1, 1), Shift: span(500, 500)},
		{Rise: span(11, 11), Shift: span(1001, 1001)}, {Rise: span(11, 11), Shift: span(999, 999)},
	}
	return k
}

// TestRoundedAtTheEnd checks that what tellings have in common is found, and what is before, before it is rounded.
func TestRoundedAtTheEnd(t *testing.T) {
	k := halves()
	wantTell(t, k, 1, star(0, 0), api.OK, span(9, 10))
	wantTell(t, k, 1, star(1, 0), api.OK, span(10, 11))
	wantAll(t, k, 1, told(star(0, 0), star(1, 0)), api.ErrClash, api.Span{})
	wantAll(t, k, 1, told(star(0, 0), star(0, 0)), api.OK, span(9, 10))
	wantAll(t, k, 1, told(star(0, 0), word(9, 10)), api.OK, span(9, 10))
	wantAll(t, k, 1, told(star(0, 0), word(10, 10)), api.ErrClash, api.Span{})
	wantAll(t, k, 1, told(star(0, 0), word(9, 9)), api.ErrClash, api.Span{})
	wantAll(t, k, 1, told(star(4, 0), word(10, 10)), api.ErrClash, api.Span{})
	wantClash(t, k, 1, told(word(9, 10), star(0, 0), star(1, 0)), api.OK, 0, 2)
	wantClash(t, k, 1, told(word(9, 11), star(0, 0), star(1, 0)), api.OK, 1, 2)
	wantBefore(t, k, 1, told(star(0, 0)), told(star(1, 0)), api.OK, api.KnownYes)
	wantBefore(t, k, 1, told(star(1, 0)), told(star(0, 0)), api.OK, api.KnownNo)
	wantBefore(t, k, 1, told(star(0, 0)), told(word(10, 10)), api.OK, api.KnownYes)
	wantBefore(t, k, 1, told(star(4, 0)), told(word(10, 10)), api.OK, api.KnownYes)
	wantBefore(t, k, 1, told(word(10, 10)), told(star(5, 0)), api.OK, api.KnownYes)
	wantBefore(t, k, 1, told(word(10, 10)), told(star(4, 0)), api.OK, api.KnownNo)
	wantBefore(t, k, 1, told(star(2, 0)), told(star(3, 0)), api.OK, api.KnownYes)
	wantBefore(t, k, 1, told(star(0, 0)), told(star(0, 0)), api.OK, api.KnownNo)
	wantBefore(t, k, 1, told(star(0, 0)), told(word(9, 10)), api.OK, api.KnownOpen)
	// A moment that is known to a thousandth of a minute, just after 0.
	k.Stars[4] = api.Star{Rise: span(1, 1), Shift: span(999, 999)}
	wantAll(t, k, 1, told(star(4, 0), word(0, 1)), api.OK, span(0, 1))
	wantClash(t, k, 1, told(star(4, 0), word(0, 1)), api.ErrNone, 0, 0)
	wantAll(t, k, 1, told(star(4, 0), word(0, 0)), api.ErrClash, api.Span{})
	// Stars that have a part of a minute in common, a thousandth of it, or nothing.
	k.Stars[0] = api.Star{Rise: span(10, 10), Shift: span(250, 750)}
	wantAll(t, k, 1, told(star(0, 0), word(9, 10)), api.OK, span(9, 10))
	wantAll(t, k, 1, told(star(0, 0), star(1, 0)), api.ErrClash, api.Span{})
	k.Stars[1] = api.Star{Rise: span(10, 10), Shift: span(0, 250)}
	wantAll(t, k, 1, told(star(0, 0), star(1, 0)), api.OK, span(9, 10))
	k.Stars[1] = api.Star{Rise: span(10, 10), Shift: span(0, 249)}
	wantAll(t, k, 1, told(star(0, 0), star(1, 0)), api.ErrClash, api.Span{})
	wantClash(t, k, 1, told(star(0, 0), star(1, 0)), api.OK, 0, 1)
}

func TestAll(t *testing.T) {
	k := example()
	wantAll(t, k, 10, told(mark(1)), api.OK, span(420, 424))
	wantAll(t, k, 10, told(mark(1), mark(1)), api.OK, span(420, 424))
	wantAll(t, k, 10, told(between(0), between(1)), api.OK, span(420, 424))
	wantAll(t, k, 10, told(word(-10, 5), word(-5, 10)), api.OK, span(-5, 5))
	wantAll(t, k, 10, told(word(-10, -5), word(-5, 10)), api.OK, span(-5, -5))
	wantAll(t, k, 10, told(word(-10, -5), word(-4, 10)), api.ErrClash, api.Span{})
	wantAll(t, k, 10, told(word(5, 9), word(5, 5), word(0, 5)), api.OK, span(5, 5))
	wantAll(t, k, 10, told(star(0, 2), word(1191, 1300), word(0, 1194)), api.OK, span(1191, 1194))
	ten := slices.Repeat(told(word(1, 5)), 10)
	wantAll(t, k, 10, ten, api.OK, span(1, 5))
	ten[9] = word(6, 7)
	wantAll(t, k, 10, ten, api.ErrClash, api.Span{})
	wantClash(t, k, 10, ten, api.OK, 0, 9)
}

func TestClash(t *testing.T) {
	k := example()
	wantClash(t, k, 10, told(mark(1)), api.ErrNone, 0, 0)
	wantClash(t, k, 10, told(mark(1), word(424, 430)), api.ErrNone, 0, 0)
	wantClash(t, k, 10, told(mark(0), mark(1)), api.OK, 0, 1)
	wantClash(t, k, 10, told(mark(1), mark(0)), api.OK, 0, 1)
	// The least first index is that of the pair, whatever is in the way of the next one.
	wantClash(t, k, 10, told(word(0, 9), word(0, 3), word(4, 5), word(9, 9)), api.OK, 1, 2)
	wantClash(t, k, 10, told(word(0, 8), word(0, 3), word(4, 5), word(9, 9)), api.OK, 0, 3)
	wantClash(t, k, 10, told(word(0, 9), word(0, 9), word(0, 8), word(0, 9), word(9, 9), word(9, 9)), api.OK, 2, 4)
	// Touching in one minute is no clash.
	wantClash(t, k, 10, told(word(0, 5), word(5, 9)), api.ErrNone, 0, 0)
	wantClash(t, k, 10, told(word(5, 9), word(0, 5), word(5, 5)), api.ErrNone, 0, 0)
	wantClash(t, k, 10, told(word(0, 5), word(6, 9)), api.OK, 0, 1)
	wantClash(t, k, 10, told(word(6, 9), word(0, 5)), api.OK, 0, 1)
}

func TestBefore(t *testing.T) {
	for _, x := range []struct {
		a, b api.Span
		want uint8
	}{
		{span(0, 5), span(6, 9), api.KnownYes},
		{span(0, 5), span(5, 9), api.KnownOpen},
		{span(5, 5), span(5, 9), api.KnownOpen},
		{span(0, 5), span(5, 5), api.KnownOpen},
		{span(5, 5), span(5, 5), api.KnownNo},
		{span(5, 9), span(0, 5), api.KnownNo},
		{span(5, 9), span(0, 6), api.KnownOpen},
		{span(6, 9), span(0, 5), api.KnownNo},
		{span(0, 9), span(3, 4), api.KnownOpen},
		{span(3, 4), span(0, 9), api.KnownOpen},
		{span(0, 9), span(0, 9), api.KnownOpen},
		{span(-9, -6), span(-5, 0), api.KnownYes},
		{span(-5, 0), span(-9, -5), api.KnownNo},
	} {
		wantBefore(t, example(), 10, told(word(x.a.Lo, x.a.Hi)), told(word(x.b.Lo, x.b.Hi)), api.OK, x.want)
	}
	// What several tell together counts.
	wantBefore(t, example(), 10, told(word(0, 9), word(0, 5)), told(word(3, 9), word(6, 20)), api.OK, api.KnownYes)
	wantBefore(t, example(), 10, told(word(0, 9), word(6, 20)), told(word(3, 6), word(0, 9)), api.OK, api.KnownNo)
}

func TestNight(t *testing.T) {
	k := example()
	wantNight(t, k, 10, nil)
	wantNight(t, k, 10, night())
	wantNight(t, k, 10, night(full(0, mark(1), word(422, 500))), span(422, 424))
	// A moment that nothing tells may be any, and one that is told tells of it.
	wantNight(t, k, 10, night(full(0)), span(-10000000, 10000000))
	wantNight(t, k, 10, night(full(0), full(0)), span(-10000000, 10000000), span(-10000000, 10000000))
	wantNight(t, k, 10, night(full(0), full(100)), span(-10000000, 9997600), span(-9997600, 10000000))
	wantNight(t, k, 10, night(full(0), sinking(0)), span(-10000000, 10000000), span(-10000000, 10000000))
	wantNight(t, k, 10, night(full(0), full(2), full(0, word(0, 5))), span(-50, -43), span(0, 5), span(0, 5))
	wantNight(t, k, 10, night(full(0, word(0, 5)), full(2), full(1)), span(0, 5), span(48, 55), span(72, 80))
	// Full, and not: of one more bowl that was sinking all may be gone.
	wantNight(t, k, 10, night(full(0, word(0, 0)), full(2)), span(0, 0), span(48, 50))
	wantNight(t, k, 10, night(full(0, word(0, 0)), sinking(2)), span(0, 0), span(48, 75))
	wantNight(t, k, 10, night(full(0, word(0, 0)), sinking(0)), span(0, 0), span(0, 25))
	wantNight(t, k, 10, night(full(0, word(0, 0)), full(0)), span(0, 0), span(0, 0))
	wantNight(t, k, 10, night(full(0), sinking(0, word(0, 0))), span(-25, 0), span(0, 0))
	wantNight(t, k, 10, night(full(0), sinking(2, word(0, 0))), span(-75, -48), span(0, 0))
	// The tellings of a later change tell of all earlier ones.
	wantNight(t, k, 10, night(full(0, word(0, 100)), full(1), full(1), full(1, word(150, 150))), span(75, 78), span(100, 102), span(125, 126), span(150, 150))
	wantNight(t, k, 10, night(full(0, word(0, 100)), sinking(1, word(0, 200)), sinking(1, word(30, 50))), span(0, 2), span(24, 26), span(48, 50))
	wantNight(t, k, 10, night(full(0, word(-100, -90)), full(4, word(0, 20))), span(-100, -90), span(0, 10))
	// Each of many changes.
	wantNight(t, k, 10, slices.Concat(night(full(0, word(0, 0))), slices.Repeat(night(full(0)), 19)), slices.Repeat([]api.Span{{}}, 20)...)
	k.Sinks = span(100000, 100000)
	moments := []api.Span{span(-100000, -100000)}
	for i := range 19 {
		moments = append(moments, span(-100000+20000*(i+1), -100000+20000*(i+1)))
	}
	wantNight(t, k, 10, slices.Concat(night(full(0, word(-100000, -100000))), slices.Repeat(night(full(200)), 19)), moments...)
}

// TestNightRoundsAtTheEnd checks that parts of minutes of bowls and stars add up.
func TestNightRoundsAtTheEnd(t *testing.T) {
	k := example()
	k.Sinks = span(1500, 1500)
	wantNight(t, k, 1, night(full(0, word(0, 0)), full(1), full(1)), span(0, 0), span(1, 2), span(3, 3))
	wantNight(t, k, 1, night(full(0), full(1), full(1, word(0, 0))), span(-3, -3), span(-2, -1), span(0, 0))
	k.Sinks = span(1000, 1001)
	wantNight(t, k, 1, night(full(0, word(0, 0)), full(1), full(1)), span(0, 0), span(1, 2), span(2, 3))
	wantNight(t, k, 1, night(full(0, word(0, 0)), full(20)), span(0, 0), span(20, 21))
	wantNight(t, k, 1, night(full(0, word(0, 0)), sinking(1)), span(0, 0), span(1, 3))
	wantNight(t, k, 1, night(full(0), full(1), full(1, word(0, 0))), span(-3, -2), span(-2, -1), span(0, 0))
	// Two halves of a minute, from a star and of a bowl, are a whole one.
	k = halves()
	k.Sinks = span(1500, 1500)
	wantNight(t, k, 1, night(full(0, star(0, 0)), full(1, word(11, 11))), span(9, 10), span(11, 11))
	wantNoNight(t, k, 1, night(full(0, star(0, 0)), full(1, word(10, 10))), api.ErrClash, 1)
	wantNoNight(t, k, 1, night(full(0, star(0, 0)), full(1, word(12, 12))), api.ErrClash, 1)
	wantNight(t, k, 1, night(full(0, star(0, 0)), full(0, word(9, 10))), span(9, 10), span(9, 10))
}

func TestInvalidChanges(t *testing.T) {
	k := example()
	wantNoNight(t, k, 10, make([]api.Change, 21), api.ErrMany, 0)
	wantNoNight(t, k, 10, slices.Repeat(night(full(0)), 21), api.ErrMany, 0)
	for _, bowls := range []int{-1, 201, math.MinInt, math.MaxInt} {
		wantNoNight(t, k, 10, night(full(bowls)), api.ErrChange, 0)
		wantNoNight(t, k, 10, night(full(0), full(0), full(bowls), sinking(bowls)), api.ErrChange, 2)
		wantNoNight(t, k, 10, night(full(0), sinking(bowls)), api.ErrChange, 1)
	}
	// There is nothing before the first one.
	wantNoNight(t, k, 10, night(full(1)), api.ErrChange, 0)
	wantNoNight(t, k, 10, night(sinking(0)), api.ErrChange, 0)
	wantNoNight(t, k, 10, night(sinking(0, word(2, 1)), full(201)), api.ErrChange, 0)
	// What is not valid is told before what clashes, wherever it is.
	wantNoNight(t, k, 10, night(full(0, mark(0), mark(1)), full(0), full(201)), api.ErrChange, 2)
	wantNight(t, k, 10, night(full(0, slices.Repeat(told(word(0, 0)), 10)...), full(200)), span(0, 0), span(4800, 5000))
}

func TestNightsThatClash(t *testing.T) {
	k := example()
	wantNoNight(t, k, 10, night(full(0, mark(0), mark(1))), api.ErrClash, 0)
	wantNoNight(t, k, 10, night(full(0), full(1, mark(0), mark(1))), api.ErrClash, 1)
	wantNoNight(t, k, 10, night(full(0, mark(0), mark(1)), full(1, mark(0), mark(1))), api.ErrClash, 0)
	for _, x := range []struct {
		second, last api.Change
		at           int
	}{
		{full(1, word(20, 23)), full(1), 1},
		{full(1, word(24, 24)), full(1), 0},
		{full(1, word(26, 30)), full(1), 1},
		{full(1, word(25, 30)), full(1), 0},
		{sinking(1, word(51, 60)), full(1), 1},
		{sinking(1, word(50, 60)), full(1), 0},
		{sinking(1, word(20, 23)), full(1), 1},
		{full(0, word(1, 1)), full(1), 1},
		{full(0, word(-1, -1)), full(1), 1},
		{sinking(0, word(-1, -1)), full(1), 1},
		// Bowls of two changes add up.
		{full(1), full(1, word(40, 47)), 2},
		{full(1), full(1, word(40, 48)), 0},
		{full(1), full(1, word(51, 60)), 2},
		{full(1), full(1, word(50, 60)), 0},
		{full(1, word(20, 24)), full(1, word(50, 60)), 2},
		{full(1, word(26, 30)), full(1, word(0, 0)), 1},
	} {
		l := night(full(0, word(0, 0)), x.second, x.last)
		if x.at > 0 {
			wantNoNight(t, k, 10, l, api.ErrClash, x.at)
			wantNoNight(t, k, 10, append(l, full(0, mark(0), mark(1))), api.ErrClash, x.at)
		} else if moments, at, e := hour.Night(k, 10, l); len(moments) != 3 || at != 0 || e != api.OK {
			t.Error(l, moments, at, e)
		}
	}
}

func TestOn(t *testing.T) {
	turns := []api.Turn{{From: 10, To: 20}, {From: 20, To: 21}, {From: 30, To: 40}, {From: 23000, To: 23040}}
	for _, x := range []struct {
		at   api.Span
		sure int
		may  []int
	}{
		{span(0, 9), -1, nil},
		{span(9, 9), -1, nil},
		{span(10, 10), 0, []int{0}},
		{span(9, 10), -1, []int{0}},
		{span(10, 19), 0, []int{0}},
		{span(19, 19), 0, []int{0}},
		{span(19, 20), -1, []int{0, 1}},
		{span(20, 20), 1, []int{1}},
		{span(20, 21), -1, []int{1}},
		{span(21, 21), -1, nil},
		{span(21, 29), -1, nil},
		{span(21, 30), -1, []int{2}},
		{span(20, 30), -1, []int{1, 2}},
		{span(30, 39), 2, []int{2}},
		{span(35, 36), 2, []int{2}},
		{span(39, 40), -1, []int{2}},
		{span(40, 22999), -1, nil},
		{span(23000, 23039), 3, []int{3}},
		{span(23039, 23039), 3, []int{3}},
		{span(23040, 23040), -1, nil},
		{span(23039, 23040), -1, []int{3}},
		{span(-100000, 100000), -1, []int{0, 1, 2, 3}},
		{span(-100000, 10), -1, []int{0}},
		{span(-10, -5), -1, nil},
		{span(39, 100000), -1, []int{2, 3}},
		{span(100000, 100000), -1, nil},
	} {
		wantOn(t, turns, x.at, api.OK, x.sure, x.may...)
	}
	wantOn(t, nil, span(0, 0), api.OK, -1)
	wantOn(t, []api.Turn{}, span(-100000, 100000), api.OK, -1)
	wantOn(t, []api.Turn{{From: 0, To: 23040}}, span(0, 23039), api.OK, 0, 0)
	wantOn(t, []api.Turn{{From: 0, To: 23040}}, span(-1, 0), api.OK, -1, 0)
	var all []api.Turn
	var may []int
	for i := range 60 {
		all, may = append(all, api.Turn{From: i, To: i + 1}), append(may, i)
	}
	wantOn(t, all, span(0, 59), api.OK, -1, may...)
	wantOn(t, all, span(59, 59), api.OK, 59, 59)
}

func TestInvalidTurns(t *testing.T) {
	good := api.Turn{From: 10, To: 20}
	wrong := [][]api.Turn{
		{{From: 0, To: 0}}, {{From: 5, To: 4}}, {{From: -1, To: 5}}, {{From: -2, To: -1}}, {{From: 0, To: 23041}}, {{From: 23040, To: 23041}}, {{From: 23041, To: 23042}},
		{{From: math.MinInt, To: 5}}, {{From: 5, To: math.MaxInt}}, {{From: math.MinInt, To: math.MaxInt}}, {{From: math.MaxInt, To: math.MinInt}}, {{From: 5, To: math.MinInt}},
		{good, {From: 19, To: 30}}, {good, good}, {good, {From: 0, To: 10}}, {good, {From: 30, To: 30}}, {good, {From: 20, To: 20}}, {{From: 23039, To: 23040}, {From: 0, To: 1}},
		{good, {From: 25, To: 30}, {From: 22, To: 24}}, {good, {From: 25, To: 30}, {From: 29, To: 40}},
		make([]api.Turn, 1),
	}
	var many []api.Turn
	for i := range 61 {
		many = append(many, api.Turn{From: i, To: i + 1})
	}
	for _, turns := range append(wrong, many) {
		wantOn(t, turns, span(10, 12), api.ErrTurns, 0)
		wantOn(t, turns, span(12, 10), api.ErrTurns, 0)
	}
	for _, at := range wrongSpans(-100000, 100000) {
		wantOn(t, []api.Turn{good}, at, api.ErrArg, 0)
		wantOn(t, nil, at, api.ErrArg, 0)
	}
}
