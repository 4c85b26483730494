package hour_test

import (
	"math"
	"slices"
	"testing"

	"aflaj/api"
	"aflaj/hour"
)

// dice are numbers that look thrown, and are the same in every run.
type dice struct{ state uint64 }

// from returns a number from low to high.
func (d *dice) from(low, high int) int {
	d.state = d.state*6364136223846793005 + 1442695040888963407
	return low + int((d.state>>33)%uint64(high-low+1))
}

// around returns a span with a number, whose ends are at most far from it, and within limits.
func (d *dice) around(n, far, low, high int) api.Span {
	return span(max(low, n-d.from(0, far)), min(high, n+d.from(0, far)))
}

// better returns a part of a span, with a number in it.
func (d *dice) better(s api.Span, n int) api.Span { return span(d.from(s.Lo, n), d.from(n, s.Hi)) }

func inside(n int, s api.Span) bool { return s.Lo <= n && n <= s.Hi }

// narrower tells whether all of one span is in another one.
func narrower(one, other api.Span) bool { return inside(one.Lo, other) && inside(one.Hi, other) }

// has tells whether a span of minutes has a moment, which is in thousandths of a minute.
func has(s api.Span, moment int) bool { return s.Lo*1000 <= moment && moment <= s.Hi*1000 }

// rounded is the least span of whole minutes with all thousandths of another one, found by going there minute by minute.
func rounded(thousandths api.Span) api.Span {
	lo, hi := thousandths.Lo/1000, thousandths.Hi/1000
	for lo*1000 > thousandths.Lo {
		lo--
	}
	for hi*1000 < thousandths.Hi {
		hi++
	}
	return span(lo, hi)
}

// tells is what a valid telling tells, in thousandths of a minute, from all corners of its spans, in the chapter's words.
func tells(k api.Clock, day int, l api.Telling) api.Span {
	switch l.Kind {
	case api.TellMark:
		return span(k.Marks[l.Which].Lo*1000, k.Marks[l.Which].Hi*1000)
	case api.TellBetween:
		return span(k.Marks[l.Which].Lo*1000, k.Marks[l.Which+1].Hi*1000)
	case api.TellWord:
		return span(l.Word.Lo*1000, l.Word.Hi*1000)
	}
	s := k.Stars[l.Which]
	var all []int
	for _, rise := range []int{s.Rise.Lo, s.Rise.Hi} {
		for _, shift := range []int{s.Shift.Lo, s.Shift.Hi} {
			for _, hand := range []int{k.Hand.Lo, k.Hand.Hi} {
				all = append(all, rise*1000-day*shift+l.Hands*hand)
			}
		}
	}
	return span(slices.Min(all), slices.Max(all))
}

// together is what tellings tell together, in thousandths of a minute, and whether there is any such moment.
func together(k api.Clock, day int, l []api.Telling) (api.Span, bool) {
	common := span(-10000000000, 10000000000)
	for _, one := range l {
		s := tells(k, day, one)
		common = span(max(common.Lo, s.Lo), min(common.Hi, s.Hi))
	}
	return common, common.Lo <= common.Hi
}

// truth is a clock, and what its numbers are in truth: minutes in thousandths.
type truth struct {
	k              api.Clock
	day            int
	marks          []int
	rises, shifts  []int
	handIs, sinkIs int
}

// thrown returns a clock whose numbers in truth are in its spans. All its times are multiples of a step of thousandths.
func thrown(d *dice, step int) truth {
	var x truth
	x.day = d.from(0, 5)
	at, last := d.from(-40, 0)*1000, api.Span{Lo: -100000, Hi: -100000}
	for range d.from(1, 4) {
		at += d.from(0, 20000/step) * step
		m := d.around(0, 3, -100000, 100000)
		m = span(rounded(span(at, at)).Lo+m.Lo, rounded(span(at, at)).Hi+m.Hi)
		m = span(max(m.Lo, last.Lo), max(m.Hi, last.Hi))
		x.marks, x.k.Marks, last = append(x.marks, at), append(x.k.Marks, m), m
	}
	for range d.from(1, 3) {
		rise, shift := d.from(-30, 60), d.from(0, 6000/step)
		x.rises, x.shifts = append(x.rises, rise*1000), append(x.shifts, shift*step)
		x.k.Stars = append(x.k.Stars, api.Star{Rise: d.around(rise, 2, -100000, 100000), Shift: steps(d.around(shift, 2, 0, 10000/step), step)})
	}
	hand, sinks := d.from(0, 9000/step), d.from(1000/step, 9000/step)
	x.handIs, x.k.Hand = hand*step, steps(d.around(hand, 3, 0, 60000/step), step)
	x.sinkIs, x.k.Sinks = sinks*step, steps(d.around(sinks, 3, 1000/step, 100000/step), step)
	return x
}

// steps is a span of so many thousandths for each number.
func steps(s api.Span, step int) api.Span { return span(s.Lo*step, s.Hi*step) }

// starAt returns the moment at which a star is so many hands high in truth.
func (x truth) starAt(which, hands int) int {
	return x.rises[which] - x.day*x.shifts[which] + hands*x.handIs
}

// of throws a true telling of a moment: of a mark or a star only if there is one then.
func (x truth) of(d *dice, moment int) api.Telling {
	other := math.MinInt + d.from(0, 9)
	switch d.from(1, 4) {
	case 1:
		if i := slices.Index(x.marks, moment); i >= 0 {
			return api.Telling{Kind: api.TellMark, Which: i, Hands: other}
		}
	case 2:
		for i := range len(x.marks) - 1 {
			if x.marks[i] <= moment && moment <= x.marks[i+1] {
				return api.Telling{Kind: api.TellBetween, Which: i, Word: span(other, other)}
			}
		}
	case 3:
		first := d.from(0, len(x.rises)-1)
		for i := range x.rises {
			which := (first + i) % len(x.rises)
			for hands := range 21 {
				if x.starAt(which, hands) == moment {
					return star(which, hands)
				}
			}
		}
	}
	minute := rounded(span(moment, moment))
	return word(minute.Lo-d.from(0, 9), minute.Hi+d.from(0, 9))
}

// moment throws a moment, most often one at which there is a mark or a star.
func (x truth) moment(d *dice) int {
	switch d.from(0, 3) {
	case 0:
		return x.marks[d.from(0, len(x.marks)-1)]
	case 1, 2:
		return x.starAt(d.from(0, len(x.rises)-1), d.from(0, 20))
	}
	return d.from(-50000, 50000)
}

// list throws true tellings of a moment.
func (x truth) list(d *dice, moment, least, most int) []api.Telling {
	var l []api.Telling
	for range d.from(least, most) {
		l = append(l, x.of(d, moment))
	}
	return l
}

// night throws a night of changes, and its moments in truth.
func (x truth) night(d *dice, most int) (l []api.Change, moments []int) {
	at := x.moment(d)
	for i := range d.from(1, most) {
		c := full(0)
		if i > 0 {
			c = api.Change{Bowls: d.from(0, 3), Full: d.from(0, 1) == 1}
			at += c.Bowls * d.from(x.k.Sinks.Lo, x.k.Sinks.Hi)
			if !c.Full {
				at += d.from(0, x.sinkIs)
			}
		}
		c.Told = x.list(d, at, 0, 2)
		l, moments = append(l, c), append(moments, at)
	}
	return l, moments
}

// TestTruth checks that whatever is so in truth is in what is told, and that what is true does not clash.
func TestTruth(t *testing.T) {
	d, kinds := &dice{1}, map[uint8]int{}
	for range 3000 {
		x := thrown(d, 1)
		if e := hour.Check(x.k); e != api.OK {
			t.Fatal(x, e)
		}
		moment := x.moment(d)
		l := x.list(d, moment, 1, 10)
		for _, one := range l {
			kinds[one.Kind]++
			if s, e := hour.Tell(x.k, x.day, one); e != api.OK || !has(s, moment) {
				t.Error(x, one, moment, s, e)
			}
		}
		if s, e := hour.All(x.k, x.day, l); e != api.OK || !has(s, moment) {
			t.Error(x, l, moment, s, e)
		}
		wantClash(t, x.k, x.day, l, api.ErrNone, 0, 0)
		changes, moments := x.night(d, 20)
		told, at, e := hour.Night(x.k, x.day, changes)
		if len(told) != len(moments) || at != 0 || e != api.OK {
			t.Fatal(x, changes, moments, told, at, e)
		}
		for i, s := range told {
			if !has(s, moments[i]) {
				t.Error(x, changes, i, moments, told)
			}
		}
		wantTruthBefore(t, x, d, moment, l)
	}
	for kind := range 4 {
		if kinds[uint8(kind+1)] < 500 {
			t.Error("too few of a kind:", kinds)
		}
	}
}

// wantTruthBefore checks that what is known of a moment and another one is so in truth.
func wantTruthBefore(t *testing.T, x truth, d *dice, moment int, l []api.Telling) {
	t.Helper()
	other := x.moment(d)
	known, e := hour.Before(x.k, x.day, l, x.list(d, other, 1, 10))
	if e != api.OK || known > api.KnownYes || known == api.KnownYes && moment >= other || known == api.KnownNo && moment < other {
		t.Error(x, l, moment, other, known, e)
	}
}

// any throws tellings that need not be true.
func (x truth) any(d *dice, least, most int) []api.Telling {
	var l []api.Telling
	moment := x.moment(d)
	for range d.from(least, most) {
		if d.from(0, 3) == 0 {
			moment += d.from(-9000, 9000)
		}
		l = append(l, x.of(d, moment))
	}
	return l
}

// TestEndsOfTellings compares what tellings tell, and what is known of moments before others, with the corners of all spans.
func TestEndsOfTellings(t *testing.T) {
	d, clashes, known := &dice{2}, 0, [3]int{}
	for range 6000 {
		x := thrown(d, 1)
		l, other := x.any(d, 1, 10), x.any(d, 1, 3)
		for _, one := range l {
			wantTell(t, x.k, x.day, one, api.OK, rounded(tells(x.k, x.day, one)))
		}
		a, fit := together(x.k, x.day, l)
		if !fit {
			clashes++
			wantAll(t, x.k, x.day, l, api.ErrClash, api.Span{})
			wantBefore(t, x.k, x.day, l, other, api.ErrClash, 0)
			continue
		}
		wantAll(t, x.k, x.day, l, api.OK, rounded(a))
		b, fit := together(x.k, x.day, other)
		if !fit {
			wantBefore(t, x.k, x.day, l, other, api.ErrClash, 0)
			continue
		}
		want := uint8(api.KnownOpen)
		if a.Hi < b.Lo {
			want = api.KnownYes
		} else if a.Lo >= b.Hi {
			want = api.KnownNo
		}
		wantBefore(t, x.k, x.day, l, other, api.OK, want)
		known[want]++
	}
	if clashes < 500 || slices.Min(known[:]) < 400 {
		t.Error("too few of a kind:", clashes, known)
	}
}

// TestOneOfThemGone checks that tellings that are named contradict each other, are the first ones, and that either of them alone is none against the other.
func TestOneOfThemGone(t *testing.T) {
	d, named := &dice{3}, 0
	for range 3000 {
		x := thrown(d, 1)
		l := x.any(d, 2, 10)
		first, second, e := hour.Clash(x.k, x.day, l)
		if e == api.ErrNone {
			if _, e := hour.All(x.k, x.day, l); e != api.OK {
				t.Error(x, l, e)
			}
			continue
		}
		if e != api.OK || first >= second {
			t.Fatal(x, l, first, second, e)
		}
		named++
		wantAll(t, x.k, x.day, told(l[first], l[second]), api.ErrClash, api.Span{})
		for _, alone := range []int{first, second} {
			wantAll(t, x.k, x.day, told(l[alone]), api.OK, rounded(tells(x.k, x.day, l[alone])))
		}
		for i := range first + 1 {
			for j := i + 1; j < len(l) && (i < first || j < second); j++ {
				if _, e := hour.All(x.k, x.day, told(l[i], l[j])); e != api.OK {
					t.Error(x, l, first, second, i, j)
				}
			}
		}
	}
	if named < 500 {
		t.Error("too few that clash:", named)
	}
}

// tried goes through all moments at steps that fit changes. Ends are at steps, so that each one that is reached is reached at them.
func tried(x truth, l []api.Change, step int, found func(moments []int)) {
	var on func(moments []int)
	on = func(moments []int) {
		i := len(moments)
		if i == len(l) {
			found(moments)
			return
		}
		s, _ := together(x.k, x.day, l[i].Told)
		if i > 0 {
			lo, hi := l[i].Bowls*x.k.Sinks.Lo, l[i].Bowls*x.k.Sinks.Hi
			if !l[i].Full {
				hi += x.k.Sinks.Hi
			}
			s = span(max(s.Lo, moments[i-1]+lo), min(s.Hi, moments[i-1]+hi))
		}
		for at := s.Lo; at <= s.Hi; at += step {
			on(append(slices.Clone(moments), at))
		}
	}
	on(nil)
}

// little throws changes of a clock whose times are few steps wide: the first moment is told.
func little(x truth, d *dice, step int) []api.Change {
	moment := x.moment(d) / step * step
	var l []api.Change
	for i := range d.from(1, 4) {
		c := full(0)
		if i > 0 {
			c = api.Change{Bowls: d.from(0, 2), Full: d.from(0, 2) > 0}
			moment += c.Bowls * x.sinkIs
			if d.from(0, 2) == 0 {
				moment += d.from(-5, 8) * step
			}
		}
		if i == 0 || d.from(0, 2) > 0 {
			minute := rounded(span(moment, moment))
			c.Told = told(word(minute.Lo-d.from(0, 1), minute.Hi+d.from(0, 1)))
		}
		if d.from(0, 3) == 0 {
			c.Told = append(c.Told, x.of(d, moment))
		}
		l = append(l, c)
	}
	return l
}

// TestNightsTried compares nights with all moments that fit, tried one by one.
func TestNightsTried(t *testing.T) {
	const step = 500
	d, fitting, clashing, later := &dice{4}, 0, 0, 0
	for range 1500 {
		x := thrown(d, step)
		// Few steps wide, so that not too many are tried.
		x.sinkIs = d.from(2, 5) * step
		x.k.Sinks = span(x.sinkIs-d.from(0, 1)*step, x.sinkIs+d.from(0, 1)*step)
		x.k.Sinks.Lo = max(x.k.Sinks.Lo, 1000)
		l := little(x, d, step)
		var lo, hi []int
		tried(x, l, step, func(moments []int) {
			if lo == nil {
				lo, hi = slices.Clone(moments), slices.Clone(moments)
			}
			for i, at := range moments {
				lo[i], hi[i] = min(lo[i], at), max(hi[i], at)
			}
		})
		if lo == nil {
			clashing++
			at := firstThatClashes(x, l, step)
			later += min(at, 1)
			wantNoNight(t, x.k, x.day, l, api.ErrClash, at)
			continue
		}
		fitting++
		var want []api.Span
		for i := range l {
			want = append(want, rounded(span(lo[i], hi[i])))
		}
		wantNight(t, x.k, x.day, l, want...)
	}
	if fitting < 400 || clashing < 200 || later < 100 {
		t.Error("too few of a kind:", fitting, clashing, later)
	}
}

// firstThatClashes returns the first change such that no moments fit the changes up to it.
func firstThatClashes(x truth, l []api.Change, step int) int {
	for i := range l {
		some := false
		tried(x, l[:i+1], step, func([]int) { some = true })
		if !some {
			return i
		}
	}
	return len(l)
}

// known returns a clock that is known better in everything.
func (x truth) known(d *dice) api.Clock {
	k := x.k
	k.Marks, k.Stars = nil, nil
	last := span(-100000, -100000)
	for i, m := range x.k.Marks {
		minute := rounded(span(x.marks[i], x.marks[i]))
		m = span(d.from(max(m.Lo, min(last.Lo, minute.Lo)), minute.Lo), d.from(minute.Hi, m.Hi))
		m = span(max(m.Lo, last.Lo), max(m.Hi, last.Hi))
		k.Marks, last = append(k.Marks, m), m
	}
	for i, s := range x.k.Stars {
		k.Stars = append(k.Stars, api.Star{Rise: d.better(s.Rise, x.rises[i]/1000), Shift: d.better(s.Shift, x.shifts[i])})
	}
	k.Hand, k.Sinks = d.better(k.Hand, x.handIs), d.better(k.Sinks, x.sinkIs)
	return k
}

// TestMoreIsNotWider checks that nothing is told wider with one telling or one change more, or with a clock that is known better.
func TestMoreIsNotWider(t *testing.T) {
	d, less := &dice{5}, 0
	for range 3000 {
		x := thrown(d, 1)
		moment := x.moment(d)
		l := x.list(d, moment, 1, 9)
		was, _ := hour.All(x.k, x.day, l)
		is, e := hour.All(x.k, x.day, append(l, x.of(d, moment)))
		if e != api.OK || !narrower(is, was) {
			t.Error(x, l, moment, was, is, e)
		}
		k := x.known(d)
		if e := hour.Check(k); e != api.OK {
			t.Fatal(x, k, e)
		}
		if is, e := hour.All(k, x.day, l); e != api.OK || !narrower(is, was) || !has(is, moment) {
			t.Error(x, k, l, moment, was, is, e)
		} else if is != was {
			less++
		}
		wantNightNotWider(t, x, d, k)
	}
	if less < 500 {
		t.Error("too few that are told better:", less)
	}
}

// wantNightNotWider checks that no moment is told wider with a change more, a telling more, or without one that was sinking.
func wantNightNotWider(t *testing.T, x truth, d *dice, k api.Clock) {
	t.Helper()
	changes, moments := x.night(d, 19)
	was, _, _ := hour.Night(x.k, x.day, changes)
	check := func(k api.Clock, l []api.Change) {
		t.Helper()
		is, _, e := hour.Night(k, x.day, l)
		if e != api.OK || !slices.EqualFunc(is[:len(was)], was, narrower) {
			t.Error(x, l, was, is, e)
		}
	}
	i := d.from(0, len(changes)-1)
	last := moments[len(moments)-1]
	check(x.k, append(slices.Clone(changes), sinking(0, x.of(d, last))))
	// A moment of this night with a telling more of it.
	more := slices.Clone(changes)
	more[i].Told = append(slices.Clone(more[i].Told), x.of(d, moments[i]))
	check(x.k, more)
	// Bowls do not sink as one number in this night's truth: what is known better is all but these.
	k.Sinks = x.k.Sinks
	check(k, changes)
}

// TestSinksKnownBetter checks that a night is told no wider by a bowl that is known better.
func TestSinksKnownBetter(t *testing.T) {
	d := &dice{6}
	for range 1000 {
		x := thrown(d, 1)
		at := x.moment(d)
		l := night(full(0, x.of(d, at)))
		moments := []int{at}
		for range d.from(1, 19) {
			c := api.Change{Bowls: d.from(0, 3), Full: d.from(0, 1) == 1}
			at += c.Bowls * x.sinkIs
			if !c.Full {
				at += d.from(0, x.sinkIs)
			}
			c.Told = x.list(d, at, 0, 1)
			l, moments = append(l, c), append(moments, at)
		}
		was, _, _ := hour.Night(x.k, x.day, l)
		k := x.k
		k.Sinks = d.better(k.Sinks, x.sinkIs)
		is, _, e := hour.Night(k, x.day, l)
		if e != api.OK || !slices.EqualFunc(is, was, narrower) || !slices.EqualFunc(is, moments, has) {
			t.Error(x, l, k.Sinks, was, is, e)
		}
		for i := range l {
			l[i].Full = l[i].Full || l[i].Bowls*x.sinkIs == moments[i]-moments[max(i-1, 0)]
		}
		if is, _, e := hour.Night(x.k, x.day, l); e != api.OK || !slices.EqualFunc(is, was, narrower) {
			t.Error(x, l, was, is, e)
		}
	}
}

// TestTurnsMinuteByMinute compares the turns that may be on with those at each minute of a span.
func TestTurnsMinuteByMinute(t *testing.T) {
	d, several, sures := &dice{7}, 0, 0
	for range 4000 {
		var turns []api.Turn
		end := 0
		for range d.from(0, 8) {
			from := end + d.from(0, 1)*d.from(0, 5)
			end = from + d.from(1, 8)
			turns = append(turns, api.Turn{From: from, To: end})
		}
		lo := d.from(-5, 60)
		at := span(lo, lo+d.from(0, 2)*d.from(0, 6))
		minutes := make([]int, len(turns))
		for minute := at.Lo; minute <= at.Hi; minute++ {
			for i, turn := range turns {
				if turn.From <= minute && minute < turn.To {
					minutes[i]++
				}
			}
		}
		var may []int
		sure := -1
		for i, n := range minutes {
			if n > 0 {
				may = append(may, i)
			}
			if n == at.Hi-at.Lo+1 {
				sure = i
				sures++
			}
		}
		if len(may) > 1 {
			several++
		}
		wantOn(t, turns, at, api.OK, sure, may...)
	}
	if several < 200 || sures < 200 {
		t.Error("too few of a kind:", several, sures)
	}
}

// spare returns a list with more room than it needs, full of something else.
func spare[T any](list []T, other T) []T {
	long := append(slices.Clone(list), other, other, other)
	return long[:len(list)]
}

// kept tells whether a list is still what it was, with the room behind it.
func kept[T comparable](list, was []T, other T) bool {
	return slices.Equal(list[:len(was)+3], append(slices.Clone(was), other, other, other))
}

// callAll calls all functions with a clock, and returns what they tell: first the errors.
func callAll(k api.Clock, day int, l, other []api.Telling, changes []api.Change) (errors []api.Errno, all []any) {
	tell, e1 := hour.Tell(k, day, append(slices.Clone(l), api.Telling{})[0])
	span, e2 := hour.All(k, day, l)
	first, second, e3 := hour.Clash(k, day, l)
	before, e4 := hour.Before(k, day, l, other)
	moments, at, e5 := hour.Night(k, day, changes)
	return []api.Errno{hour.Check(k), e1, e2, e3, e4, e5}, []any{tell, span, first, second, before, moments, at}
}

// TestArgumentsStay checks that nothing is written to arguments, nor to the room behind them, and that results are new.
func TestArgumentsStay(t *testing.T) {
	otherSpan, otherStar, otherTold := span(71, 72), api.Star{Rise: span(73, 74)}, word(75, 76)
	otherTurn := api.Turn{From: 77, To: 78}
	lists := [][]api.Telling{{mark(1), word(422, 500)}, {mark(1), star(0, 2)}, {word(2, 1)}, {between(0)}, {}}
	for _, was := range lists {
		k := example()
		k.Marks, k.Stars = spare(k.Marks, otherSpan), spare(k.Stars, otherStar)
		l, first, second := spare(was, otherTold), spare(was, otherTold), spare(told(word(440, 480)), otherTold)
		// One list twice: what is done with one change must not be seen in another one.
		changes := []api.Change{full(0, first...), full(0, first...), sinking(1, second...), full(9, word(7, 7)), full(9, word(8, 8))}
		changes[0].Told, changes[1].Told, changes[2].Told = first, first, second
		callAll(k, 10, l, second, changes[:3])
		if !kept(k.Marks, example().Marks, otherSpan) || !kept(k.Stars, example().Stars, otherStar) || !kept(l, was, otherTold) || !kept(first, was, otherTold) || !kept(second, told(word(440, 480)), otherTold) {
			t.Error(k, l, first, second)
		}
		for i, c := range changes {
			if want := [...]int{0, 0, 1, 9, 9}[i]; c.Bowls != want || c.Full != (i != 2) {
				t.Error(changes)
			}
		}
		if changes[3].Told[0] != word(7, 7) || changes[4].Told[0] != word(8, 8) {
			t.Error(changes)
		}
	}
	turns := spare([]api.Turn{{From: 0, To: 30}, {From: 30, To: 60}}, otherTurn)
	may, _, _ := hour.On(turns, span(20, 40))
	if !kept(turns, []api.Turn{{From: 0, To: 30}, {From: 30, To: 60}}, otherTurn) {
		t.Error(turns)
	}
	clear(may)
	moments, _, _ := hour.Night(example(), 10, night(full(0, mark(0)), full(1)))
	clear(moments)
	TestExamples(t)
}

// TestAnyValue calls all functions with numbers from everywhere: each call ends, and all agree on what is valid.
func TestAnyValue(t *testing.T) {
	d, valid, fine := &dice{8}, 0, 0
	throw := func() int {
		strange := [...]int{math.MinInt, math.MinInt + 1, -100001, -100000, -1, 0, 1, 100000, 100001, 10000000, math.MaxInt - 1, math.MaxInt}
		if d.from(0, 60) == 0 {
			return strange[d.from(0, len(strange)-1)]
		}
		return d.from(0, 3)
	}
	pair := func() api.Span {
		s := span(throw(), throw())
		if d.from(0, 19) > 0 {
			s = span(min(s.Lo, s.Hi), max(s.Lo, s.Hi))
		}
		return s
	}
	list := func() []api.Telling {
		var l []api.Telling
		for range d.from(0, 3) {
			l = append(l, api.Telling{Kind: uint8(d.from(0, 40) % 5), Which: throw(), Hands: throw(), Word: pair()})
		}
		return l
	}
	for range 6000 {
		k := api.Clock{Hand: pair(), Sinks: span(1000+throw(), 1003+d.from(0, 9))}
		for i := range d.from(0, 3) {
			k.Marks = append(k.Marks, span(i+throw(), i+3))
		}
		for range d.from(0, 3) {
			k.Stars = append(k.Stars, api.Star{Rise: pair(), Shift: pair()})
		}
		changes := night(full(0, list()...))
		for range d.from(0, 3) {
			changes = append(changes, api.Change{Told: list(), Bowls: throw(), Full: d.from(0, 1) == 0})
		}
		errors, all := callAll(k, throw(), list(), list(), changes)
		if errors[0] == api.OK {
			valid++
		}
		if errors[5] == api.OK {
			fine++
		}
		for i, e := range errors {
			if (errors[0] == api.ErrClock) != (e == api.ErrClock) || (e == api.ErrArg) != (errors[1] == api.ErrArg) && i > 0 {
				t.Error(k, i, errors, all)
			}
		}
		hour.On([]api.Turn{{From: throw(), To: throw()}, {From: throw(), To: throw()}}, pair())
	}
	if valid < 500 || fine < 50 {
		t.Error("too few valid ones:", valid, fine)
	}
}
