package date_test

import (
	"math"
	"slices"
	"testing"

	"aflaj/api"
	"aflaj/date"
)

func span(lo, hi int) api.Span { return api.Span{Lo: lo, Hi: hi} }

func spans(l ...api.Span) []api.Span { return l }

// just is a number that is known.
func just(n int) api.Span { return span(n, n) }

func ints(l ...int) []int { return l }

// The limits, as numbers that the code need not agree with.
const (
	whole       = 1000
	mostDates   = 100000
	mostBirds   = 1000
	mostKeep    = 30
	mostDry     = 100
	mostCost    = 1000
	mostGoats   = 1000
	mostEats    = 1000
	mostStore   = 1000000
	mostDays    = 12
	mostSeasons = 20
)

// fruit is the one of the chapter's examples.
func fruit() api.Fruit {
	return api.Fruit{Wet: span(500, 600), Dry: span(40, 50), Soft: 450, Half: 300, Keep: 4, Prices: [3]int{9, 5, 3}}
}

// fruitWith is that one with something else.
func fruitWith(how func(f *api.Fruit)) api.Fruit {
	f := fruit()
	how(&f)
	return f
}

// keeps is that one with another Keep.
func keeps(days int) api.Fruit { return fruitWith(func(f *api.Fruit) { f.Keep = days }) }

// bunch is the one of the chapter's examples.
func bunch() api.Bunch {
	return api.Bunch{Ripe: spans(span(10, 20), just(30), span(0, 5), span(40, 60)), Birds: span(1, 2)}
}

func bunchWith(how func(b *api.Bunch)) api.Bunch {
	b := bunch()
	how(&b)
	return b
}

// ripens is a bunch to which no birds come.
func ripens(l ...api.Span) api.Bunch { return api.Bunch{Ripe: l} }

// round is the one of the chapter's examples.
func round() api.Round {
	return api.Round{
		Fodder: span(100, 120), Dung: just(10), Eats: span(20, 25), Gives: span(5, 6), Boost: span(500, 600),
		Seasons: []api.Season{{Grown: span(50, 60), Spread: 10}, {Grown: span(40, 60), Spread: 12}},
	}
}

func roundWith(how func(r *api.Round)) api.Round {
	r := round()
	how(&r)
	return r
}

func state(fodder, dung api.Span) api.State { return api.State{Fodder: fodder, Dung: dung} }

func wantGrades(t *testing.T, f api.Fruit, days int, first, last uint8) {
	t.Helper()
	if a, b, e := date.Grades(f, days); a != first || b != last || e != api.OK {
		t.Errorf("Grades %v %v: %v %v %v, want %v %v", f, days, a, b, e, first, last)
	}
}

func wantCut(t *testing.T, f api.Fruit, b api.Bunch, cuts []int, want api.Yield) {
	t.Helper()
	if got, e := date.Cut(f, b, cuts); got != want || e != api.OK {
		t.Errorf("Cut %v %v %v: %v %v, want %v", f, b, cuts, got, e, want)
	}
}

func wantBest(t *testing.T, f api.Fruit, b api.Bunch, most, worth int, want ...int) {
	t.Helper()
	if got, n, e := date.Best(f, b, most); !slices.Equal(got, want) || n != worth || e != api.OK {
		t.Errorf("Best %v %v %v: %v %v %v, want %v %v", f, b, most, got, n, e, want, worth)
	}
}

func wantGo(t *testing.T, r api.Round, goats int, want ...api.State) {
	t.Helper()
	if got, at, e := date.Go(r, goats); !slices.Equal(got, want) || at != 0 || e != api.OK {
		t.Errorf("Go %v %v: %v %v %v, want %v", r, goats, got, at, e, want)
	}
}

// wantStop wants that Go tells an error at a season, and nothing else.
func wantStop(t *testing.T, r api.Round, goats, at int, e api.Errno) {
	t.Helper()
	if got, i, f := date.Go(r, goats); len(got) != 0 || i != at || f != e {
		t.Errorf("Go %v %v: %v %v %v, want %v %v", r, goats, got, i, f, at, e)
	}
}

func wantGoats(t *testing.T, r api.Round, want api.Span, e api.Errno) {
	t.Helper()
	if got, f := date.Goats(r); got != want || f != e {
		t.Errorf("Goats %v: %v %v, want %v %v", r, got, f, want, e)
	}
}

func TestExamples(t *testing.T) {
	wantGrades(t, fruit(), 0, 0, 0)
	wantGrades(t, fruit(), 2, 0, 1)
	wantGrades(t, fruit(), 4, 1, 1)
	wantCut(t, fruit(), bunch(), ints(1, 3), api.Yield{Grades: [3]api.Span{span(78, 113)}, Taken: span(1, 4), Worth: span(702, 1017)})
	wantBest(t, fruit(), bunch(), 1, 510, 3)
	wantBest(t, fruit(), bunch(), 2, 702, 1, 3)
	wantCut(t, keeps(1), bunch(), ints(3), api.Yield{Grades: [3]api.Span{span(40, 64)}, Taken: span(4, 10), Fallen: span(32, 46), Worth: span(360, 576)})
	wantGo(t, round(), 3, state(span(80, 126), span(15, 18)), state(span(51, 134), span(18, 24)))
	wantStop(t, round(), 7, 0, api.ErrHungry)
	wantStop(t, round(), 2, 1, api.ErrDung)
	wantGoats(t, round(), span(3, 4), api.OK)
}

func TestGrades(t *testing.T) {
	// dates are moist between two numbers when they ripen, and dry no more.
	dates := func(wet api.Span, soft, half int) api.Fruit { return api.Fruit{Wet: wet, Soft: soft, Half: half} }
	for _, x := range []struct {
		f           api.Fruit
		first, last uint8
	}{
		// Exactly Soft, exactly Half, and one less.
		{dates(just(450), 450, 300), 0, 0}, {dates(just(449), 450, 300), 1, 1}, {dates(just(300), 450, 300), 1, 1}, {dates(just(299), 450, 300), 2, 2},
		{dates(span(449, 450), 450, 300), 0, 1}, {dates(span(300, 450), 450, 300), 0, 1}, {dates(span(299, 450), 450, 300), 0, 2}, {dates(span(299, 449), 450, 300), 1, 2}, {dates(span(299, 300), 450, 300), 1, 2},
		{dates(span(300, 449), 450, 300), 1, 1}, {dates(span(0, 299), 450, 300), 2, 2}, {dates(span(450, 1000), 450, 300), 0, 0}, {dates(span(0, 1000), 450, 300), 0, 2},
		// Soft and Half are equal: no date is half dry.
		{dates(just(300), 300, 300), 0, 0}, {dates(just(299), 300, 300), 2, 2}, {dates(span(299, 300), 300, 300), 0, 2}, {dates(span(299, 301), 300, 300), 0, 2}, {dates(just(0), 0, 0), 0, 0}, {dates(span(0, 1000), 0, 0), 0, 0},
		{dates(span(999, 1000), 1000, 1000), 0, 2}, {dates(just(1000), 1000, 1000), 0, 0}, {dates(span(0, 999), 1000, 1000), 2, 2},
		// Half of 0: none is dry.
		{dates(just(0), 1, 0), 1, 1}, {dates(span(0, 1), 1, 0), 0, 1}, {dates(span(0, 1000), 1000, 0), 0, 1}, {dates(span(0, 999), 1000, 0), 1, 1},
	} {
		for _, days := range ints(0, 1, mostKeep) {
			wantGrades(t, x.f, days, x.first, x.last)
		}
	}
	// Drying day by day: from 500 to 600, by 40 to 50; Keep does not matter.
	for _, keep := range ints(0, 4, mostKeep) {
		for _, x := range []struct {
			days        int
			first, last uint8
		}{{0, 0, 0}, {1, 0, 0}, {2, 0, 1}, {3, 0, 1}, {4, 1, 1}, {5, 1, 2}, {7, 1, 2}, {8, 2, 2}, {12, 2, 2}, {15, 2, 2}, {29, 2, 2}, {mostKeep, 2, 2}} {
			wantGrades(t, keeps(keep), x.days, x.first, x.last)
		}
	}
	// Not below 0, which is not dry if Half is 0, and soft if Soft is.
	wet := api.Fruit{Wet: span(10, 50), Dry: span(5, 20), Soft: 31, Half: 0}
	wantGrades(t, wet, 1, 0, 1)
	wantGrades(t, wet, 4, 1, 1)
	wantGrades(t, wet, mostKeep, 1, 1)
	wet.Half = 1
	wantGrades(t, wet, 0, 0, 1)
	wantGrades(t, wet, 1, 0, 2)
	wantGrades(t, wet, 9, 1, 2)
	wantGrades(t, wet, 10, 2, 2)
	wet.Soft, wet.Half = 0, 0
	wantGrades(t, wet, 9, 0, 0)
	wantGrades(t, wet, mostKeep, 0, 0)
	// The least and the most drying.
	wantGrades(t, api.Fruit{Wet: just(1000), Dry: span(0, 100), Soft: 1000, Half: 900}, 1, 0, 1)
	wantGrades(t, api.Fruit{Wet: just(1000), Dry: span(0, 100), Soft: 1000, Half: 901}, 1, 0, 2)
	wantGrades(t, api.Fruit{Wet: just(1000), Dry: just(100), Soft: 100, Half: 0}, 9, 0, 0)
	wantGrades(t, api.Fruit{Wet: just(1000), Dry: just(100), Soft: 101, Half: 0}, 9, 1, 1)
}

func TestCutGrades(t *testing.T) {
	yields := func(soft, half, dry, worth api.Span) api.Yield {
		return api.Yield{Grades: [3]api.Span{soft, half, dry}, Worth: worth}
	}
	none := span(0, 0)
	for _, x := range []struct {
		wet        api.Span
		soft, half int
		prices     [3]int
		want       api.Yield
	}{
		// One grade.
		{span(450, 500), 450, 300, [3]int{9, 5, 3}, yields(span(10, 20), none, none, span(90, 180))},
		{span(300, 449), 450, 300, [3]int{9, 5, 3}, yields(none, span(10, 20), none, span(50, 100))},
		{span(0, 299), 450, 300, [3]int{9, 5, 3}, yields(none, none, span(10, 20), span(30, 60))},
		// Several: none or all of them may be of each.
		{span(449, 450), 450, 300, [3]int{9, 5, 3}, yields(span(0, 20), span(0, 20), none, span(50, 180))},
		{span(299, 300), 450, 300, [3]int{9, 5, 3}, yields(none, span(0, 20), span(0, 20), span(30, 100))},
		{span(299, 450), 450, 300, [3]int{9, 5, 3}, yields(span(0, 20), span(0, 20), span(0, 20), span(30, 180))},
		// What is drier may cost more.
		{span(449, 450), 450, 300, [3]int{5, 9, 11}, yields(span(0, 20), span(0, 20), none, span(50, 180))},
		{span(299, 450), 450, 300, [3]int{5, 3, 9}, yields(span(0, 20), span(0, 20), span(0, 20), span(30, 180))},
		{span(299, 450), 450, 300, [3]int{5, 9, 3}, yields(span(0, 20), span(0, 20), span(0, 20), span(30, 180))},
		// There is no half dry one, whatever it would cost.
		{span(299, 300), 300, 300, [3]int{5, 1, 4}, yields(span(0, 20), none, span(0, 20), span(40, 100))},
		{span(299, 300), 300, 300, [3]int{5, 9, 6}, yields(span(0, 20), none, span(0, 20), span(50, 120))},
		// None that is dry.
		{span(0, 450), 450, 0, [3]int{9, 5, 3}, yields(span(0, 20), span(0, 20), none, span(50, 180))},
		{span(0, 449), 450, 0, [3]int{9, 5, 3}, yields(none, span(10, 20), none, span(50, 100))},
		// For nothing, and for the most.
		{span(299, 450), 450, 300, [3]int{}, yields(span(0, 20), span(0, 20), span(0, 20), none)},
		{span(450, 450), 450, 300, [3]int{mostCost, 0, 0}, yields(span(10, 20), none, none, span(10*mostCost, 20*mostCost))},
	} {
		f := api.Fruit{Wet: x.wet, Soft: x.soft, Half: x.half, Prices: x.prices}
		wantCut(t, f, ripens(span(10, 20)), ints(0), x.want)
	}
	// Dates of each day have their own grades, and are told together: soft for sure, soft or half dry, half dry for sure.
	f := api.Fruit{Wet: span(500, 549), Dry: just(50), Soft: 500, Half: 400, Keep: 2, Prices: [3]int{100, 10, 1}}
	wantCut(t, f, ripens(just(3), span(5, 6), span(20, 30)), ints(2), yields(span(20, 30), span(8, 9), none, span(2080, 3090)))
	f.Wet.Hi = 550
	wantCut(t, f, ripens(just(3), span(5, 6), span(20, 30)), ints(2), yields(span(20, 36), span(3, 9), none, span(2080, 3630)))
}

func TestWaits(t *testing.T) {
	// 1, 2, 4, 8, 16 and 32 dates, so that one can tell which are where.
	b := ripens(just(1), just(2), just(4), just(8), just(16), just(32))
	for _, x := range []struct {
		keep              int
		cuts              []int
		cut, fallen, left int
	}{
		// No cuts: they fall, the last of them on the last day, and the others hang still.
		{0, nil, 0, 31, 32}, {1, nil, 0, 15, 48}, {4, nil, 0, 1, 62}, {5, nil, 0, 0, 63}, {mostKeep, nil, 0, 0, 63}, {0, ints(), 0, 31, 32},
		// On all days.
		{0, ints(0, 1, 2, 3, 4, 5), 63, 0, 0}, {4, ints(0, 1, 2, 3, 4, 5), 63, 0, 0},
		// On the last day: Keep days after, and one day later.
		{0, ints(5), 32, 31, 0}, {1, ints(5), 48, 15, 0}, {3, ints(5), 60, 3, 0}, {4, ints(5), 62, 1, 0}, {5, ints(5), 63, 0, 0}, {mostKeep, ints(5), 63, 0, 0},
		// Days after the last cut.
		{0, ints(0), 1, 30, 32}, {2, ints(1), 3, 4, 56}, {4, ints(1), 3, 0, 60}, {1, ints(3), 12, 3, 48}, {mostKeep, ints(4), 31, 0, 32},
		// Several cuts: dates go with the first one from their day on, or with none.
		{0, ints(2, 4), 20, 11, 32}, {1, ints(2, 5), 54, 9, 0}, {1, ints(0, 3), 13, 2, 48}, {2, ints(0, 4), 29, 2, 32}, {3, ints(0, 5), 61, 2, 0}, {4, ints(0, 5), 63, 0, 0}, {1, ints(1, 4), 27, 4, 32},
	} {
		f := keeps(x.keep)
		f.Dry = just(0)
		wantCut(t, f, b, x.cuts, api.Yield{Grades: [3]api.Span{just(x.cut)}, Fallen: just(x.fallen), Left: just(x.left), Worth: just(9 * x.cut)})
	}
	// A bunch of one day.
	wantCut(t, keeps(0), ripens(span(3, 7)), ints(0), api.Yield{Grades: [3]api.Span{span(3, 7)}, Worth: span(27, 63)})
	wantCut(t, keeps(0), ripens(span(3, 7)), nil, api.Yield{Left: span(3, 7)})
	// Dates dry as long as they wait: 500 to 600, 450 to 560, 400 to 520, and 350 to 480.
	f := keeps(3)
	wantCut(t, f, ripens(just(7), just(0), just(0), just(0)), ints(1), api.Yield{Grades: [3]api.Span{just(7)}, Worth: just(63)})
	wantCut(t, f, ripens(just(7), just(0), just(0), just(0)), ints(2), api.Yield{Grades: [3]api.Span{span(0, 7), span(0, 7)}, Worth: span(35, 63)})
	f.Soft = 490
	wantCut(t, f, ripens(just(7), just(0), just(0), just(0)), ints(3), api.Yield{Grades: [3]api.Span{just(0), just(7)}, Worth: just(35)})
}

func TestBirds(t *testing.T) {
	birds := func(many api.Span, l ...api.Span) api.Bunch { return api.Bunch{Ripe: l, Birds: many} }
	for _, x := range []struct {
		keep int
		b    api.Bunch
		cuts []int
		want api.Yield
	}{
		// None on the day on which dates ripen; then day by day, also on the day of the cut.
		{4, birds(span(2, 3), span(10, 20)), ints(0), api.Yield{Grades: [3]api.Span{span(10, 20)}, Worth: span(90, 180)}},
		{4, birds(span(2, 3), span(10, 20), just(0)), ints(1), api.Yield{Grades: [3]api.Span{span(7, 18)}, Taken: span(2, 3), Worth: span(63, 162)}},
		{4, birds(span(2, 3), span(10, 20), just(0), just(0)), nil, api.Yield{Taken: span(4, 6), Left: span(4, 16)}},
		{0, birds(span(2, 3), span(10, 20), just(0), just(0)), nil, api.Yield{Taken: span(2, 3), Fallen: span(7, 18)}},
		{1, birds(span(2, 3), span(10, 20), just(0), just(0)), nil, api.Yield{Taken: span(4, 6), Fallen: span(4, 16)}},
		{1, birds(span(2, 3), span(10, 20), just(0), just(0)), ints(2), api.Yield{Taken: span(4, 6), Fallen: span(4, 16)}},
		{2, birds(span(2, 3), span(10, 20), just(0), just(0)), nil, api.Yield{Taken: span(4, 6), Left: span(4, 16)}},
		// Just all there are, and more than that.
		{4, birds(just(5), just(10), just(0), just(0)), nil, api.Yield{Taken: just(10)}},
		{4, birds(just(6), just(10), just(0), just(0)), nil, api.Yield{Taken: just(10)}},
		{4, birds(span(5, 6), span(9, 11), just(0), just(0)), nil, api.Yield{Taken: span(9, 11), Left: span(0, 1)}},
		{0, birds(span(3, 9), span(2, 5), just(0)), nil, api.Yield{Taken: span(2, 5), Fallen: span(0, 2)}},
		{1, birds(span(3, 9), span(2, 5), just(0)), ints(1), api.Yield{Grades: [3]api.Span{span(0, 2)}, Taken: span(2, 5), Worth: span(0, 18)}},
		{4, birds(just(mostBirds), just(5), just(7), just(9)), nil, api.Yield{Taken: just(12), Left: just(9)}},
		// Of the dates of each day as many.
		{4, birds(just(2), just(10), just(1), just(10), just(10)), nil, api.Yield{Taken: just(9), Left: just(22)}},
		// None, none for sure, and nothing to take.
		{4, birds(just(0), just(10), just(10)), nil, api.Yield{Left: just(20)}},
		{4, birds(span(0, 3), just(10), just(10)), nil, api.Yield{Taken: span(0, 3), Left: span(17, 20)}},
		{4, birds(span(1, 3), just(0), just(0)), ints(1), api.Yield{}},
	} {
		wantCut(t, keeps(x.keep), x.b, x.cuts, x.want)
		if x.b.Birds.Hi == 0 {
			continue
		}
		// Covered, no birds come.
		x.b.Covered = true
		covered, e := date.Cut(keeps(x.keep), x.b, x.cuts)
		x.b.Covered, x.b.Birds = false, just(0)
		without, f := date.Cut(keeps(x.keep), x.b, x.cuts)
		if covered != without || covered.Taken != just(0) || e != api.OK || f != api.OK {
			t.Errorf("covered: %v %v, without birds: %v %v", covered, e, without, f)
		}
	}
	b := bunch()
	b.Covered = true
	wantCut(t, fruit(), b, ints(1, 3), api.Yield{Grades: [3]api.Span{span(80, 115)}, Worth: span(720, 1035)})
	wantBest(t, fruit(), b, 4, 720, 1, 3)
}

func TestBest(t *testing.T) {
	// Dates that dry as they would in the examples, but for nothing else.
	dry := fruitWith(func(f *api.Fruit) { f.Keep = mostKeep })
	for _, x := range []struct {
		f           api.Fruit
		b           api.Bunch
		most, worth int
		want        []int
	}{
		// No days at all.
		{fruit(), bunch(), 0, 0, nil},
		// No more than are needed: on 0, 1, 2 and 3 the dates of the day 0 would be 8 at the least, too, and those of 2 none.
		{fruit(), bunch(), 3, 720, ints(0, 1, 3)}, {fruit(), bunch(), 4, 720, ints(0, 1, 3)}, {fruit(), bunch(), mostDays, 720, ints(0, 1, 3)},
		// Nothing is worth anything: no cuts.
		{fruitWith(func(f *api.Fruit) { f.Prices = [3]int{} }), bunch(), 4, 0, nil},
		{fruit(), ripens(span(0, 100), span(0, 9)), 4, 0, nil},
		{fruitWith(func(f *api.Fruit) { f.Wet, f.Prices[2] = just(0), 0 }), bunch(), 4, 0, nil},
		// The first ones of several.
		{fruit(), ripens(just(10), just(0), just(0)), 3, 90, ints(0)}, {dry, ripens(just(0), just(10), just(0), just(0)), 3, 90, ints(1)},
		{keeps(0), ripens(just(10), just(10), just(10)), 1, 90, ints(0)}, {keeps(0), ripens(just(10), just(10), just(10)), 2, 180, ints(0, 1)}, {keeps(0), ripens(just(10), just(10), just(10)), 3, 270, ints(0, 1, 2)},
		{keeps(0), ripens(just(10), just(20), just(10)), 2, 270, ints(0, 1)}, {keeps(0), ripens(just(10), just(20), just(30)), 2, 450, ints(1, 2)}, {keeps(0), ripens(just(20), just(10), just(20)), 2, 360, ints(0, 2)},
		// With the fewest days: what ripens on 0 is as good on 1.
		{fruit(), ripens(just(10), just(10)), 2, 180, ints(1)}, {fruit(), ripens(just(10), just(10)), 1, 180, ints(1)}, {fruit(), ripens(just(10), just(10), just(0)), 2, 180, ints(1)},
		{fruit(), ripens(just(10), just(10), just(10), just(10)), 4, 360, ints(1, 3)}, {fruit(), ripens(just(10), just(10), just(10)), 3, 270, ints(0, 2)},
		// Fewer for which a date more costs more than a day of birds.
		{fruit(), api.Bunch{Ripe: spans(just(10), just(10)), Birds: just(0)}, 2, 180, ints(1)}, {fruit(), api.Bunch{Ripe: spans(just(10), just(10)), Birds: span(0, 1)}, 2, 180, ints(0, 1)},
		{fruit(), api.Bunch{Ripe: spans(just(10), just(10)), Birds: span(0, 1)}, 1, 171, ints(1)}, {fruit(), api.Bunch{Ripe: spans(just(10), just(1)), Birds: span(0, 1)}, 1, 90, ints(0)}, {fruit(), api.Bunch{Ripe: spans(just(10), just(1)), Birds: span(0, 1), Covered: true}, 1, 99, ints(1)},
		// What is drier may be worth more, so that it is better to wait.
		{fruitWith(func(f *api.Fruit) { f.Prices = [3]int{1, 5, 9} }), ripens(just(10), just(0), just(0), just(0), just(0)), 5, 50, ints(4)},
		{fruitWith(func(f *api.Fruit) { f.Prices, f.Keep = [3]int{1, 5, 9}, 9 }), ripens(just(10), just(0), just(0), just(0), just(0), just(0), just(0), just(0), just(0), just(0)), 5, 90, ints(8)},
		{fruitWith(func(f *api.Fruit) { f.Prices, f.Keep = [3]int{1, 5, 9}, 7 }), ripens(just(10), just(0), just(0), just(0), just(0), just(0), just(0), just(0), just(0), just(0)), 5, 50, ints(4)},
		// What counts is what is sure, not what may be.
		{keeps(0), ripens(span(10, 10), span(9, 1000)), 1, 90, ints(0)}, {keeps(0), ripens(span(9, 1000), span(10, 10)), 1, 90, ints(1)},
		// One day.
		{keeps(0), ripens(just(4)), 1, 36, ints(0)}, {keeps(0), ripens(just(4)), mostDays, 36, ints(0)}, {keeps(0), ripens(just(4)), 0, 0, nil},
	} {
		wantBest(t, x.f, x.b, x.most, x.worth, x.want...)
		if y, e := date.Cut(x.f, x.b, x.want); y.Worth.Lo != x.worth || e != api.OK {
			t.Errorf("Cut %v %v %v: %v %v, want %v", x.f, x.b, x.want, y, e, x.worth)
		}
	}
}

func TestGo(t *testing.T) {
	// Nothing happens.
	wantGo(t, api.Round{}, 0)
	wantGo(t, api.Round{Fodder: span(3, 4), Dung: span(5, 6), Seasons: []api.Season{}}, mostGoats)
	wantGo(t, api.Round{Fodder: span(3, 4), Dung: span(5, 6), Seasons: make([]api.Season, 2)}, 0, state(span(3, 4), span(5, 6)), state(span(3, 4), span(5, 6)))
	for _, x := range []struct {
		how   func(r *api.Round)
		goats int
		want  []api.State
		at    int
		e     api.Errno
	}{
		// No goats: nothing is eaten, and no dung comes.
		{func(r *api.Round) { r.Seasons[1].Spread = 0 }, 0, []api.State{state(span(155, 186), just(0)), state(span(195, 246), just(0))}, 0, api.OK},
		{func(r *api.Round) { r.Seasons[1].Spread = 1 }, 0, nil, 1, api.ErrDung},
		// Just what is there, and one more; of what may be there the least.
		{func(r *api.Round) { r.Seasons[0].Spread = 11 }, 3, nil, 0, api.ErrDung},
		{func(r *api.Round) { r.Dung.Hi, r.Seasons[0].Spread = 99, 11 }, 3, nil, 0, api.ErrDung},
		{func(r *api.Round) { r.Dung.Hi = 99 }, 3, []api.State{state(span(80, 126), span(15, 107)), state(span(51, 134), span(18, 113))}, 0, api.OK},
		{func(r *api.Round) { r.Seasons[1].Spread = 15 }, 3, []api.State{state(span(80, 126), span(15, 18)), state(span(52, 135), span(15, 21))}, 0, api.OK},
		{func(r *api.Round) { r.Seasons[1].Spread = 16 }, 3, nil, 1, api.ErrDung},
		// What comes in a season is spread in the next one.
		{func(r *api.Round) { r.Dung = just(0); r.Seasons[0].Spread = 1 }, 3, nil, 0, api.ErrDung},
		// Just enough fodder, and one too little.
		{func(r *api.Round) { r.Eats = just(31); r.Seasons = r.Seasons[:1] }, 5, []api.State{state(span(0, 31), span(25, 30))}, 0, api.OK},
		{func(r *api.Round) { r.Eats = just(31); r.Fodder.Lo--; r.Seasons = r.Seasons[:1] }, 5, nil, 0, api.ErrHungry},
		{func(r *api.Round) { r.Eats = span(0, 31); r.Seasons[0].Grown.Lo-- }, 5, nil, 0, api.ErrHungry},
		{func(r *api.Round) {
			r.Fodder, r.Seasons[0].Grown, r.Boost, r.Eats = just(0), just(0), just(1000), just(2)
		}, 5, []api.State{state(just(0), span(25, 30)), state(span(42, 62), span(38, 48))}, 0, api.OK},
		{func(r *api.Round) {
			r.Fodder, r.Seasons[0].Grown, r.Boost, r.Eats = just(0), just(0), just(999), just(2)
		}, 5, nil, 0, api.ErrHungry},
		{func(r *api.Round) { r.Seasons[1].Grown = span(0, 99) }, 4, nil, 1, api.ErrHungry},
		// Of two errors in a season dung is the first, but that of an earlier season is before it.
		{func(r *api.Round) { r.Seasons[0].Spread = 11 }, 1000, nil, 0, api.ErrDung},
		{func(r *api.Round) { r.Seasons[1].Spread = mostStore }, 7, nil, 0, api.ErrHungry},
		{func(r *api.Round) { r.Seasons[1].Spread = mostStore }, 5, nil, 1, api.ErrDung},
		// Boost is rounded down and up, in each season.
		{func(r *api.Round) {
			r.Boost, r.Seasons = just(333), []api.Season{{Spread: 2}, {Spread: 2}, {Spread: 3}, {Spread: 3}}
		}, 0, []api.State{state(span(100, 121), just(8)), state(span(100, 122), just(6)), state(span(100, 123), just(3)), state(span(100, 124), just(0))}, 0, api.OK},
		{func(r *api.Round) { r.Boost = span(99, 101); r.Seasons = []api.Season{{Spread: 10}} }, 0, []api.State{state(span(100, 122), just(0))}, 0, api.OK},
		{func(r *api.Round) { r.Boost = just(100); r.Seasons = []api.Season{{Spread: 10}} }, 0, []api.State{state(span(101, 121), just(0))}, 0, api.OK},
		{func(r *api.Round) { r.Boost = span(0, 1); r.Seasons = []api.Season{{Spread: 1}} }, 0, []api.State{state(span(100, 121), just(9))}, 0, api.OK},
		{func(r *api.Round) { r.Boost = span(999, 1000); r.Seasons = []api.Season{{Spread: 1}} }, 0, []api.State{state(span(100, 121), just(9))}, 0, api.OK},
	} {
		if x.e != api.OK {
			wantStop(t, roundWith(x.how), x.goats, x.at, x.e)
		} else {
			wantGo(t, roundWith(x.how), x.goats, x.want...)
		}
	}
}

func TestGoats(t *testing.T) {
	for _, x := range []struct {
		how  func(r *api.Round)
		want api.Span
		e    api.Errno
	}{
		{func(r *api.Round) { r.Seasons = nil }, span(0, mostGoats), api.OK},
		{func(r *api.Round) { r.Seasons = []api.Season{} }, span(0, mostGoats), api.OK},
		{func(r *api.Round) { r.Seasons = make([]api.Season, 1) }, span(0, 4), api.OK},
		// No goats, or any number.
		{func(r *api.Round) { r.Fodder, r.Seasons = just(0), make([]api.Season, mostSeasons) }, just(0), api.OK},
		{func(r *api.Round) { r.Eats, r.Seasons[1].Spread = just(0), 0 }, span(0, mostGoats), api.OK},
		{func(r *api.Round) { r.Eats = just(0) }, span(3, mostGoats), api.OK},
		{func(r *api.Round) { r.Eats, r.Gives, r.Seasons[1].Spread = just(0), just(1), 1000 }, span(1000, mostGoats), api.OK},
		{func(r *api.Round) { r.Eats, r.Gives, r.Seasons[1].Spread = just(0), just(1), 1001 }, span(0, 0), api.ErrNone},
		{func(r *api.Round) { r.Eats, r.Fodder = just(1), just(945) }, span(3, 523), api.OK},
		{func(r *api.Round) { r.Eats, r.Fodder, r.Seasons = just(1), just(1000), make([]api.Season, 1) }, span(0, 1000), api.OK},
		{func(r *api.Round) { r.Eats, r.Fodder, r.Seasons = just(1), just(999), make([]api.Season, 1) }, span(0, 999), api.OK},
		// Just one, and none between.
		{func(r *api.Round) { r.Seasons[1].Spread = 20 }, just(4), api.OK},
		{func(r *api.Round) { r.Seasons[1].Spread = 21 }, span(0, 0), api.ErrNone},
		// There is no dung for any, and no fodder even for one.
		{func(r *api.Round) { r.Seasons[0].Spread = 11 }, span(0, 0), api.ErrNone},
		{func(r *api.Round) { r.Gives.Lo = 0 }, span(0, 0), api.ErrNone},
		{func(r *api.Round) { r.Eats.Hi = 156 }, span(0, 0), api.ErrNone},
		// Hungry in the first season with any that would give enough dung for the last one.
		{func(r *api.Round) { r.Seasons = append(r.Seasons, api.Season{Spread: 500}) }, span(0, 0), api.ErrNone},
	} {
		wantGoats(t, roundWith(x.how), x.want, x.e)
	}
}

// beyond are numbers from everywhere that are not from low to high.
func beyond(low, high int) []int {
	return ints(low-1, high+1, low-1000000, high+1000000, math.MinInt, math.MinInt+1, math.MinInt+high, math.MaxInt, math.MaxInt-1, math.MaxInt-high)
}

// wrongSpans are no spans from 0 to a number.
func wrongSpans(most int) []api.Span {
	return []api.Span{
		span(1, 0), span(-1, 0), span(-1, -1), span(-1, most), span(0, most+1), span(most+1, most+1), span(most, most-1),
		span(math.MinInt, 0), span(0, math.MaxInt), span(math.MinInt, math.MaxInt), span(math.MaxInt, math.MinInt),
		span(math.MinInt, math.MinInt), span(math.MaxInt, math.MaxInt), span(math.MaxInt, 0),
	}
}

// wrongFruits are not valid, each for one reason.
func wrongFruits() []api.Fruit {
	var wrong []api.Fruit
	change := func(how func(f *api.Fruit)) { wrong = append(wrong, fruitWith(how)) }
	for _, s := range wrongSpans(whole) {
		change(func(f *api.Fruit) { f.Wet = s })
	}
	for _, s := range wrongSpans(mostDry) {
		change(func(f *api.Fruit) { f.Dry = s })
	}
	for _, n := range append(beyond(0, whole), 299) {
		change(func(f *api.Fruit) { f.Soft = n })
	}
	for _, n := range append(beyond(0, whole), 451, 1000) {
		change(func(f *api.Fruit) { f.Half = n })
	}
	for _, n := range beyond(0, whole) {
		change(func(f *api.Fruit) { f.Soft, f.Half = n, n })
	}
	for _, n := range beyond(0, mostKeep) {
		change(func(f *api.Fruit) { f.Keep = n })
	}
	for grade := range 3 {
		for _, n := range beyond(0, mostCost) {
			change(func(f *api.Fruit) { f.Prices[grade] = n })
		}
	}
	return wrong
}

// wrongBunches are not valid, each for one reason.
func wrongBunches() []api.Bunch {
	wrong := []api.Bunch{{}, ripens(), ripens(spans()...), ripens(make([]api.Span, mostDays+1)...), ripens(make([]api.Span, 1000)...), ripens(slices.Repeat(spans(span(1, 2)), 13)...)}
	for i := range bunch().Ripe {
		for _, s := range wrongSpans(mostDates) {
			wrong = append(wrong, bunchWith(func(b *api.Bunch) { b.Ripe[i] = s }))
		}
	}
	for _, s := range wrongSpans(mostBirds) {
		// Also if it is covered.
		wrong = append(wrong, bunchWith(func(b *api.Bunch) { b.Birds = s }), bunchWith(func(b *api.Bunch) { b.Birds, b.Covered = s, true }))
	}
	return wrong
}

// wantNoBunch wants that all functions of bunches tell an error, and nothing else, whatever the cuts are.
func wantNoBunch(t *testing.T, f api.Fruit, b api.Bunch, want api.Errno) {
	t.Helper()
	if e := date.Check(f, b); e != want {
		t.Errorf("Check %v %v: %v, want %v", f, b, e, want)
	}
	for _, cuts := range [][]int{nil, ints(0), ints(-1), ints(2, 1), make([]int, 99)} {
		if y, e := date.Cut(f, b, cuts); y != (api.Yield{}) || e != want {
			t.Errorf("Cut %v %v %v: %v %v, want %v", f, b, cuts, y, e, want)
		}
	}
	for _, most := range ints(0, 2, mostDays, -1, mostDays+1, math.MinInt, math.MaxInt) {
		if cuts, worth, e := date.Best(f, b, most); len(cuts) != 0 || worth != 0 || e != want {
			t.Errorf("Best %v %v %v: %v %v %v, want %v", f, b, most, cuts, worth, e, want)
		}
	}
}

func TestInvalidBunches(t *testing.T) {
	for _, f := range wrongFruits() {
		wantNoBunch(t, f, bunch(), api.ErrFruit)
		wantNoBunch(t, f, api.Bunch{}, api.ErrFruit)
		for _, days := range append(beyond(0, mostKeep), 0, 4, mostKeep) {
			if first, last, e := date.Grades(f, days); first != 0 || last != 0 || e != api.ErrFruit {
				t.Errorf("Grades %v %v: %v %v %v", f, days, first, last, e)
			}
		}
	}
	for _, b := range wrongBunches() {
		wantNoBunch(t, fruit(), b, api.ErrBunch)
		wantNoBunch(t, fruitWith(func(f *api.Fruit) { f.Keep = -1 }), b, api.ErrFruit)
	}
}

func TestInvalidNumbers(t *testing.T) {
	// A date that is dry for sure, so that its grade would be seen.
	dry := fruitWith(func(f *api.Fruit) { f.Wet = just(0) })
	for _, days := range beyond(0, mostKeep) {
		if first, last, e := date.Grades(dry, days); first != 0 || last != 0 || e != api.ErrArg {
			t.Errorf("Grades %v: %v %v %v", days, first, last, e)
		}
	}
	for _, most := range beyond(0, mostDays) {
		if cuts, worth, e := date.Best(fruit(), bunch(), most); len(cuts) != 0 || worth != 0 || e != api.ErrArg {
			t.Errorf("Best %v: %v %v %v", most, cuts, worth, e)
		}
	}
	for _, n := range beyond(0, 3) {
		for _, cuts := range [][]int{ints(n), ints(0, n), ints(n, 3), ints(0, 1, 2, 3, n), ints(n, n)} {
			wantNoCuts(t, cuts)
		}
	}
	for _, cuts := range [][]int{ints(1, 1), ints(0, 0), ints(3, 3), ints(3, 2), ints(1, 0), ints(0, 2, 1), ints(0, 2, 2, 3), ints(0, 1, 3, 2), make([]int, 5), make([]int, 1000), ints(math.MaxInt, math.MinInt), ints(math.MinInt, 0)} {
		wantNoCuts(t, cuts)
	}
}

// wantNoCuts wants that days are no cuts of the bunch of the examples.
func wantNoCuts(t *testing.T, cuts []int) {
	t.Helper()
	if y, e := date.Cut(fruit(), bunch(), cuts); y != (api.Yield{}) || e != api.ErrCuts {
		t.Errorf("Cut %v: %v %v", cuts, y, e)
	}
}

// wrongRounds are not valid, each for one reason.
func wrongRounds() []api.Round {
	var wrong []api.Round
	change := func(how func(r *api.Round)) { wrong = append(wrong, roundWith(how)) }
	for _, s := range wrongSpans(mostStore) {
		change(func(r *api.Round) { r.Fodder = s })
		change(func(r *api.Round) { r.Dung = s })
		change(func(r *api.Round) { r.Seasons[0].Grown = s })
		change(func(r *api.Round) { r.Seasons[1].Grown = s })
		change(func(r *api.Round) { r.Fodder, r.Seasons = s, nil })
	}
	for _, s := range wrongSpans(mostEats) {
		change(func(r *api.Round) { r.Eats = s })
		change(func(r *api.Round) { r.Gives = s })
	}
	for _, s := range wrongSpans(whole) {
		change(func(r *api.Round) { r.Boost = s })
	}
	for _, n := range beyond(0, mostStore) {
		change(func(r *api.Round) { r.Seasons[0].Spread = n })
		change(func(r *api.Round) { r.Seasons[1].Spread = n })
	}
	for _, many := range ints(mostSeasons+1, 1000) {
		change(func(r *api.Round) { r.Seasons = make([]api.Season, many) })
	}
	return wrong
}

func TestInvalidRounds(t *testing.T) {
	for _, r := range wrongRounds() {
		for _, goats := range append(beyond(0, mostGoats), 0, 3, 7, mostGoats) {
			wantStop(t, r, goats, 0, api.ErrRound)
		}
		wantGoats(t, r, span(0, 0), api.ErrRound)
	}
	for _, goats := range beyond(0, mostGoats) {
		wantStop(t, round(), goats, 0, api.ErrArg)
		wantStop(t, api.Round{}, goats, 0, api.ErrArg)
		wantStop(t, roundWith(func(r *api.Round) { r.Seasons[0].Spread = 11 }), goats, 0, api.ErrArg)
	}
}

func TestLimits(t *testing.T) {
	// The most of everything, and the least.
	most := api.Fruit{Wet: just(whole), Dry: just(mostDry), Soft: whole, Half: whole, Keep: mostKeep, Prices: [3]int{mostCost, mostCost, mostCost}}
	b := ripens(slices.Repeat(spans(just(mostDates)), mostDays)...)
	b.Birds = just(mostBirds)
	days := ints(0, 1, 2, 3, 4, 5, 6, 7, 8, 9, 10, 11)
	if e := date.Check(most, b); e != api.OK {
		t.Error(e)
	}
	wantGrades(t, most, 0, 0, 0)
	wantGrades(t, most, 1, 2, 2)
	wantGrades(t, most, mostKeep, 2, 2)
	wantCut(t, most, b, days, api.Yield{Grades: [3]api.Span{just(1200000)}, Worth: just(1200000000)})
	wantCut(t, most, b, ints(11), api.Yield{Grades: [3]api.Span{just(100000), just(0), just(1034000)}, Taken: just(66000), Worth: just(1134000000)})
	wantCut(t, most, b, nil, api.Yield{Taken: just(66000), Left: just(1134000)})
	wantBest(t, most, b, mostDays, 1200000000, days...)
	wantBest(t, most, b, 1, 1134000000, 11)
	wantBest(t, most, b, 2, 1170000000, 5, 11)
	// Of all fruits, bunches and rounds the zero ones; a bunch needs a day.
	if e := date.Check(api.Fruit{}, ripens(just(0))); e != api.OK {
		t.Error(e)
	}
	wantGrades(t, api.Fruit{}, mostKeep, 0, 0)
	wantCut(t, api.Fruit{}, ripens(just(0)), nil, api.Yield{})
	wantBest(t, api.Fruit{}, ripens(just(0)), mostDays, 0)
	wantGoats(t, api.Round{}, span(0, mostGoats), api.OK)
	wide := api.Fruit{Wet: span(0, whole), Dry: span(0, mostDry), Soft: whole, Half: 0, Keep: mostKeep, Prices: [3]int{0, mostCost, 0}}
	b = ripens(slices.Repeat(spans(span(0, mostDates)), mostDays)...)
	b.Birds = span(0, mostBirds)
	wantCut(t, wide, b, ints(11), api.Yield{Grades: [3]api.Span{span(0, 1200000), span(0, 1200000)}, Taken: span(0, 66000), Worth: span(0, 1200000000)})
	wantBest(t, wide, b, mostDays, 0)
	// As many seasons, with as much, as may be: all of the dung comes again.
	r := api.Round{Fodder: just(mostStore), Dung: just(mostStore), Eats: just(mostEats), Gives: just(mostEats), Boost: just(whole), Seasons: slices.Repeat([]api.Season{{Grown: just(mostStore), Spread: mostStore}}, mostSeasons)}
	var want []api.State
	for i := range mostSeasons {
		want = append(want, state(just(mostStore*(i+2)), just(mostStore)))
	}
	wantGo(t, r, mostGoats, want...)
	wantGoats(t, r, just(mostGoats), api.OK)
	wantStop(t, r, mostGoats-1, 1, api.ErrDung)
	wantStop(t, r, 0, 1, api.ErrDung)
	r.Gives.Lo = 0
	wantGoats(t, r, span(0, 0), api.ErrNone)
	r = api.Round{Fodder: span(0, mostStore), Dung: span(0, mostStore), Eats: span(0, mostEats), Gives: span(0, mostEats), Boost: span(0, whole), Seasons: slices.Repeat([]api.Season{{Grown: span(0, mostStore)}}, mostSeasons)}
	wantGoats(t, r, just(0), api.OK)
	wantStop(t, r, 1, 0, api.ErrHungry)
	want = nil
	for i := range mostSeasons {
		want = append(want, state(span(0, mostStore*(i+2)), span(0, mostStore)))
	}
	wantGo(t, r, 0, want...)
}
