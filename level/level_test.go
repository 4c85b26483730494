package level_test

import (
	"math"
	"slices"
	"testing"

	"aflaj/api"
	"aflaj/level"
)

func span(lo, hi int) api.Span { return api.Span{Lo: lo, Hi: hi} }

func shot(from, to, lo, hi int) api.Shot { return api.Shot{From: from, To: to, Rise: span(lo, hi)} }

func mark(point, lo, hi int) api.Mark { return api.Mark{Point: point, Height: span(lo, hi)} }

func thread(from, to, lo, hi int) api.Thread {
	return api.Thread{From: from, To: to, Long: span(lo, hi)}
}

// example is the survey of the chapter's examples.
func example() api.Survey {
	return api.Survey{
		Points:  4,
		Shots:   []api.Shot{shot(0, 1, -110, -100), shot(1, 2, -55, -45), shot(0, 2, -160, -150), shot(3, 2, 20, 30)},
		Marks:   []api.Mark{mark(0, 1000, 1000)},
		Threads: []api.Thread{thread(0, 2, 50000, 51000)},
	}
}

// apart is that survey with the shot 2 that does not fit.
func apart() api.Survey {
	s := example()
	s.Shots[2].Rise = span(-180, -170)
	return s
}

// tied is two points with one fall between them, and a thread.
func tied(fall api.Span, long api.Span) api.Survey {
	return api.Survey{Points: 2, Shots: []api.Shot{{From: 1, To: 0, Rise: fall}}, Threads: []api.Thread{{From: 0, To: 1, Long: long}}}
}

func wantHeights(t *testing.T, s api.Survey, e api.Errno, want ...api.Span) {
	t.Helper()
	if got, f := level.Heights(s); !slices.Equal(got, want) || f != e {
		t.Errorf("Heights: %v %v, want %v %v", got, f, want, e)
	}
}

func wantFall(t *testing.T, s api.Survey, from, to int, e api.Errno, want api.Span) {
	t.Helper()
	if got, f := level.Fall(s, from, to); got != want || f != e {
		t.Errorf("Fall %d %d: %v %v, want %v %v", from, to, got, f, want, e)
	}
}

func wantLoop(t *testing.T, s api.Survey, points []int, e api.Errno, want api.Span) {
	t.Helper()
	if got, f := level.Loop(s, points); got != want || f != e {
		t.Errorf("Loop %v: %v %v, want %v %v", points, got, f, want, e)
	}
}

func wantClash(t *testing.T, s api.Survey, e api.Errno, want ...int) {
	t.Helper()
	if got, f := level.Clash(s); !slices.Equal(got, want) || f != e {
		t.Errorf("Clash: %v %v, want %v %v", got, f, want, e)
	}
}

func wantWiden(t *testing.T, s api.Survey, want int) {
	t.Helper()
	if got, e := level.Widen(s); got != want || e != api.OK {
		t.Errorf("Widen: %v %v, want %v", got, e, want)
	}
}

func wantSlope(t *testing.T, s api.Survey, thread int, e api.Errno, want api.Span) {
	t.Helper()
	if got, f := level.Slope(s, thread); got != want || f != e {
		t.Errorf("Slope %d: %v %v, want %v %v", thread, got, f, want, e)
	}
}

func wantRuns(t *testing.T, s api.Survey, points []int, e api.Errno, want ...uint8) {
	t.Helper()
	if got, f := level.Runs(s, points); !slices.Equal(got, want) || f != e {
		t.Errorf("Runs %v: %v %v, want %v %v", points, got, f, want, e)
	}
}

func TestExamples(t *testing.T) {
	s := example()
	if e := level.Check(s); e != api.OK {
		t.Error(e)
	}
	wantHeights(t, s, api.OK, span(1000, 1000), span(890, 900), span(840, 850), span(810, 830))
	wantFall(t, s, 1, 2, api.OK, span(45, 55))
	wantFall(t, s, 2, 1, api.OK, span(-55, -45))
	wantFall(t, s, 0, 3, api.OK, span(170, 190))
	wantLoop(t, s, []int{0, 1, 2}, api.OK, span(-15, 15))
	wantLoop(t, s, []int{0, 1, 3}, api.ErrNone, api.Span{})
	wantSlope(t, s, 0, api.OK, span(2, 4))
	wantRuns(t, s, []int{0, 1, 2, 3}, api.OK, api.KnownYes, api.KnownYes, api.KnownYes)
	wantWiden(t, s, 0)
	wantWiden(t, apart(), 2)
	wantClash(t, apart(), api.OK, 0, 1, 2)
}

// wantInvalid checks that every function returns ErrSurvey and zero values, though other arguments are wrong as well.
func wantInvalid(t *testing.T, name string, s api.Survey) {
	t.Helper()
	if e := level.Check(s); e != api.ErrSurvey {
		t.Errorf("%s: Check: %v", name, e)
	}
	heights, e1 := level.Heights(s)
	fall, e2 := level.Fall(s, -1, 99)
	loop, e3 := level.Loop(s, nil)
	clash, e4 := level.Clash(s)
	wider, e5 := level.Widen(s)
	slope, e6 := level.Slope(s, -1)
	runs, e7 := level.Runs(s, make([]int, api.MaxPoints+1))
	for i, e := range []api.Errno{e1, e2, e3, e4, e5, e6, e7} {
		if e != api.ErrSurvey {
			t.Errorf("%s: function %d: %v", name, i, e)
		}
	}
	if len(heights)+len(clash)+len(runs)+wider != 0 || fall != (api.Span{}) || loop != (api.Span{}) || slope != (api.Span{}) {
		t.Errorf("%s: results beside the error", name)
	}
}

func TestInvalidSurveys(t *testing.T) {
	wantInvalid(t, "zero", api.Survey{})
	for _, points := range []int{math.MinInt, -1, 0, 21, math.MaxInt} {
		wantInvalid(t, "points", api.Survey{Points: points})
	}
	for _, x := range []api.Shot{
		shot(-1, 0, 0, 0), shot(0, -1, 0, 0), shot(4, 0, 0, 0), shot(0, 4, 0, 0), shot(2, 2, 0, 0),
		shot(math.MinInt, 0, 0, 0), shot(0, math.MaxInt, 0, 0),
		shot(0, 1, 1, 0), shot(0, 1, -20000001, 0), shot(0, 1, 0, 20000001),
		shot(0, 1, 20000001, 20000001), shot(0, 1, -20000001, -20000001),
		shot(0, 1, math.MinInt, math.MaxInt), shot(0, 1, math.MaxInt, math.MinInt), shot(0, 1, math.MinInt, math.MinInt),
	} {
		s := example()
		s.Shots[3] = x
		wantInvalid(t, "shot", s)
	}
	for _, x := range []api.Mark{
		mark(-1, 0, 0), mark(4, 0, 0), mark(math.MinInt, 0, 0), mark(math.MaxInt, 0, 0),
		mark(0, 1, 0), mark(0, -10000001, 0), mark(0, 0, 10000001),
		mark(0, math.MinInt, math.MaxInt), mark(0, math.MaxInt, math.MinInt),
	} {
		s := example()
		s.Marks[0] = x
		wantInvalid(t, "mark", s)
	}
	for _, x := range []api.Thread{
		thread(-1, 0, 1, 1), thread(0, -1, 1, 1), thread(4, 0, 1, 1), thread(0, 4, 1, 1), thread(2, 2, 1, 1),
		thread(0, 1, 2, 1), thread(0, 1, 0, 1), thread(0, 1, -1, 1), thread(0, 1, 1, 100000001),
		thread(0, 1, math.MinInt, math.MaxInt), thread(0, 1, math.MaxInt, math.MinInt),
	} {
		s := example()
		s.Threads[0] = x
		wantInvalid(t, "thread", s)
	}
	many := example()
	many.Shots = slices.Repeat(many.Shots[:1], api.MaxShots+1)
	wantInvalid(t, "shots", many)
	many = example()
	many.Marks = slices.Repeat(many.Marks, api.MaxBenches+1)
	wantInvalid(t, "marks", many)
	many = example()
	many.Threads = slices.Repeat(many.Threads, api.MaxThreads+1)
	wantInvalid(t, "threads", many)
}

func TestValidSurveys(t *testing.T) {
	full := example()
	full.Shots = slices.Repeat(full.Shots, api.MaxShots/4)
	full.Marks = slices.Repeat(full.Marks, api.MaxBenches)
	full.Threads = slices.Repeat(full.Threads, api.MaxThreads)
	limits := api.Survey{
		Points:  api.MaxPoints,
		Shots:   []api.Shot{shot(0, 19, -20000000, -20000000), shot(19, 0, 20000000, 20000000), shot(1, 0, -20000000, 20000000)},
		Marks:   []api.Mark{mark(0, 10000000, 10000000), mark(19, -10000000, -10000000), mark(5, -10000000, 10000000)},
		Threads: []api.Thread{thread(19, 0, 1, 1), thread(0, 19, 1, 100000000), thread(0, 1, 100000000, 100000000)},
	}
	// Heights do not have to fit for a survey to be valid.
	for i, s := range []api.Survey{full, limits, apart(), {Points: 1}, {Points: 1, Shots: []api.Shot{}, Marks: []api.Mark{}, Threads: []api.Thread{}}} {
		if e := level.Check(s); e != api.OK {
			t.Error(i, e)
		}
	}
	wantHeights(t, full, api.OK, span(1000, 1000), span(890, 900), span(840, 850), span(810, 830))
	wantFall(t, limits, 0, 19, api.OK, span(20000000, 20000000))
	wantSlope(t, limits, 0, api.OK, span(-20000000000, -20000000000))
	wantSlope(t, limits, 1, api.OK, span(200, 20000000000))
	wantSlope(t, limits, 2, api.OK, span(0, 200))
}

func TestHeights(t *testing.T) {
	wantHeights(t, api.Survey{Points: 1}, api.OK, span(-10000000, 10000000))
	wantHeights(t, api.Survey{Points: 2}, api.OK, span(-10000000, 10000000), span(-10000000, 10000000))
	wantHeights(t, api.Survey{Points: 1, Marks: []api.Mark{mark(0, -5, 9), mark(0, 3, 12)}}, api.OK, span(3, 9))
	// A shot alone, whose points are held by the limits of heights.
	wantHeights(t, api.Survey{Points: 2, Shots: []api.Shot{shot(0, 1, 5, 7)}}, api.OK, span(-10000000, 9999995), span(-9999995, 10000000))
	wantHeights(t, api.Survey{Points: 2, Shots: []api.Shot{shot(0, 1, 20000000, 20000000)}}, api.OK, span(-10000000, -10000000), span(10000000, 10000000))
	high := api.Survey{Points: 2, Shots: []api.Shot{shot(0, 1, 10, 10)}, Marks: []api.Mark{mark(0, 9999985, 9999995)}}
	wantHeights(t, high, api.OK, span(9999985, 9999990), span(9999995, 10000000))
	high.Marks[0] = mark(0, 9999991, 9999995)
	wantHeights(t, high, api.ErrApart)
	low := api.Survey{Points: 2, Shots: []api.Shot{shot(0, 1, -10, -10)}, Marks: []api.Mark{mark(0, -9999991, -9999991)}}
	wantHeights(t, low, api.ErrApart)
	wantHeights(t, apart(), api.ErrApart)
	// Shots there and back that say the opposite.
	wantHeights(t, api.Survey{Points: 2, Shots: []api.Shot{shot(0, 1, 3, 4), shot(1, 0, -3, -1)}}, api.OK, span(-10000000, 9999997), span(-9999997, 10000000))
	wantHeights(t, api.Survey{Points: 2, Shots: []api.Shot{shot(0, 1, 3, 4), shot(1, 0, -2, -1)}}, api.ErrApart)
	wantHeights(t, api.Survey{Points: 1, Marks: []api.Mark{mark(0, 0, 1), mark(0, 2, 3)}}, api.ErrApart)
	// Points that are tied to the mark one after the other, from the last one on.
	chain := api.Survey{Points: api.MaxPoints, Marks: []api.Mark{mark(19, 7, 8)}}
	var want []api.Span
	for point := range api.MaxPoints {
		if point > 0 {
			chain.Shots = append(chain.Shots, shot(point-1, point, -3, 1))
		}
		want = append(want, span(7-(19-point), 8+3*(19-point)))
	}
	wantHeights(t, chain, api.OK, want...)
}

func TestFall(t *testing.T) {
	s := example()
	wantFall(t, s, 0, 0, api.OK, api.Span{})
	wantFall(t, s, 3, 3, api.OK, api.Span{})
	wantFall(t, s, 3, 0, api.OK, span(-190, -170))
	wantFall(t, s, 1, 3, api.OK, span(65, 85))
	wantFall(t, api.Survey{Points: 2}, 0, 1, api.OK, span(-20000000, 20000000))
	wantFall(t, api.Survey{Points: 2, Marks: []api.Mark{mark(0, 10, 20)}}, 0, 1, api.OK, span(-9999990, 10000020))
	for _, wrong := range []int{math.MinInt, -1, 4, math.MaxInt} {
		for _, survey := range []api.Survey{s, apart()} {
			wantFall(t, survey, wrong, 0, api.ErrArg, api.Span{})
			wantFall(t, survey, 0, wrong, api.ErrArg, api.Span{})
			wantFall(t, survey, wrong, wrong, api.ErrArg, api.Span{})
		}
	}
	wantFall(t, apart(), 0, 1, api.ErrApart, api.Span{})
	wantFall(t, apart(), 3, 3, api.ErrApart, api.Span{})
}

func TestLoop(t *testing.T) {
	s := example()
	wantLoop(t, s, []int{0, 1}, api.OK, span(-10, 10))
	wantLoop(t, s, []int{2, 1, 0}, api.OK, span(-15, 15))
	wantLoop(t, s, []int{0, 1, 2, 3, 2}, api.OK, span(-25, 25))
	wantLoop(t, s, slices.Repeat([]int{2, 3}, 10), api.OK, span(-100, 100))
	// Marks say nothing of a loop, nor do limits of heights, nor shots over another point.
	wantLoop(t, api.Survey{Points: 2, Marks: []api.Mark{mark(0, 1, 1), mark(1, 2, 2)}}, []int{0, 1}, api.ErrNone, api.Span{})
	wantLoop(t, s, []int{0, 3}, api.ErrNone, api.Span{})
	wantLoop(t, api.Survey{Points: 3, Shots: []api.Shot{shot(0, 1, 5, 5), shot(1, 2, 5, 5), shot(2, 0, 7, 9)}}, []int{0, 1, 2}, api.OK, span(17, 19))
	// A single shot tells 0 there and back only if it is exact.
	wantLoop(t, api.Survey{Points: 2, Shots: []api.Shot{shot(1, 0, 4, 4)}}, []int{0, 1}, api.OK, api.Span{})
	// What several shots have in common, whichever way they go.
	several := api.Survey{Points: 3, Shots: []api.Shot{shot(0, 1, 1, 9), shot(1, 0, -7, 3), shot(0, 1, 2, 12), shot(1, 2, 0, 1), shot(0, 2, 10, 10)}}
	wantLoop(t, several, []int{0, 1, 2}, api.OK, span(-8, -2))
	wantLoop(t, several, []int{0, 1}, api.OK, span(-5, 5))
	touch := api.Survey{Points: 2, Shots: []api.Shot{shot(0, 1, 1, 4), shot(1, 0, -9, -4)}}
	wantLoop(t, touch, []int{0, 1}, api.OK, api.Span{})
	// A survey whose heights do not fit has loops as well.
	wantLoop(t, apart(), []int{0, 1, 2}, api.OK, span(5, 35))
}

func TestLoopErrors(t *testing.T) {
	s := example()
	for _, points := range [][]int{
		nil, {}, {0}, {0, 0}, {0, 1, 1}, {0, 0, 1}, {0, 1, 0}, {0, 4}, {4, 0}, {-1, 0}, {0, math.MinInt}, {math.MaxInt, 0}, {0, 3, 4}, {0, 3, 3},
		slices.Repeat([]int{0, 1, 2}, 7), slices.Repeat([]int{0, 1}, 11), slices.Repeat([]int{0, 3}, 1000),
	} {
		wantLoop(t, s, points, api.ErrArg, api.Span{})
	}
	split := api.Survey{Points: 3, Shots: []api.Shot{shot(0, 1, 1, 2), shot(0, 1, 3, 4), shot(1, 2, 0, 0), shot(2, 1, -5, 5)}}
	wantLoop(t, split, []int{0, 1}, api.ErrApart, api.Span{})
	wantLoop(t, split, []int{1, 2}, api.OK, api.Span{})
	wantLoop(t, split, []int{0, 1, 2}, api.ErrNone, api.Span{})
	wantLoop(t, split, []int{0, 1, 2, 0}, api.ErrArg, api.Span{})
	split.Shots = append(split.Shots, shot(2, 0, 3, 3))
	wantLoop(t, split, []int{0, 1, 2}, api.ErrApart, api.Span{})
	wantLoop(t, split, []int{2, 1, 0}, api.ErrApart, api.Span{})
}

func TestClash(t *testing.T) {
	wantClash(t, example(), api.ErrNone)
	wantClash(t, api.Survey{Points: 1}, api.ErrNone)
	// The first reading that can be left out is left out first.
	three := api.Survey{Points: 1, Marks: []api.Mark{mark(0, 0, 9), mark(0, 5, 7), mark(0, 50, 60)}}
	wantClash(t, three, api.OK, 1, 2)
	slices.Reverse(three.Marks)
	wantClash(t, three, api.OK, 0, 2)
	// Of two conflicts the one whose first reading is later remains.
	two := api.Survey{Points: 3, Shots: []api.Shot{shot(0, 1, 1, 2), shot(1, 2, 5, 5), shot(1, 0, 3, 4), shot(2, 1, 6, 6)}}
	wantClash(t, two, api.OK, 1, 3)
	// Marks have the numbers after the shots.
	s := example()
	s.Marks = append(s.Marks, mark(1, 880, 885))
	wantClash(t, s, api.OK, 0, 4, 5)
	// Two readings that fit on their own, but not together with the limits of heights.
	wantClash(t, api.Survey{Points: 2, Shots: []api.Shot{shot(0, 1, 11, 12)}, Marks: []api.Mark{mark(0, 9999990, 10000000)}}, api.OK, 0, 1)
	full := api.Survey{Points: 1, Marks: slices.Repeat([]api.Mark{mark(0, 1, 2)}, api.MaxBenches-1)}
	full.Marks = append(full.Marks, mark(0, 3, 4))
	wantClash(t, full, api.OK, 18, 19)
}

func TestWiden(t *testing.T) {
	wantWiden(t, api.Survey{Points: 1}, 0)
	wantWiden(t, api.Survey{Points: 1, Marks: []api.Mark{mark(0, 0, 9), mark(0, 5, 7), mark(0, 50, 60)}}, 22)
	wantWiden(t, api.Survey{Points: 1, Marks: []api.Mark{mark(0, 0, 9), mark(0, 10, 10)}}, 1)
	wantWiden(t, api.Survey{Points: 1, Marks: []api.Mark{mark(0, 0, 9), mark(0, 9, 10)}}, 0)
	// Heights stay within their limits.
	wantWiden(t, api.Survey{Points: 2, Shots: []api.Shot{shot(0, 1, 13, 13)}, Marks: []api.Mark{mark(0, 9999990, 10000000)}}, 2)
	// The widest errors that there are.
	wantWiden(t, api.Survey{Points: 2, Shots: []api.Shot{shot(0, 1, 20000000, 20000000), shot(1, 0, 20000000, 20000000)}}, 20000000)
	wantWiden(t, api.Survey{Points: 1, Marks: []api.Mark{mark(0, 10000000, 10000000), mark(0, -10000000, -10000000)}}, 10000000)
	wantWiden(t, api.Survey{Points: 2, Shots: []api.Shot{shot(0, 1, 20000000, 20000000), shot(1, 0, 19999999, 19999999)}}, 20000000)
}

func TestSlope(t *testing.T) {
	for _, x := range []struct{ fall, long, want api.Span }{
		{span(150, 160), span(50000, 51000), span(2, 4)},
		{span(2, 4), span(1000, 2000), span(1, 4)},
		{span(2, 4), span(1001, 2001), span(0, 4)},
		{span(2, 4), span(999, 1999), span(1, 5)},
		{span(-4, -2), span(1000, 2000), span(-4, -1)},
		{span(-4, -2), span(999, 1999), span(-5, -1)},
		{span(-4, -2), span(1001, 2001), span(-4, 0)},
		{span(-3, 5), span(7, 11), span(-429, 715)},
		{span(0, 0), span(7, 11), span(0, 0)},
		{span(0, 1), span(100000000, 100000000), span(0, 1)},
		{span(-1, 0), span(100000000, 100000000), span(-1, 0)},
		{span(-20000000, 20000000), span(1, 100000000), span(-20000000000, 20000000000)},
	} {
		wantSlope(t, tied(x.fall, x.long), 0, api.OK, x.want)
	}
	// A thread goes from its From to its To, and falls by other shots than one between these.
	s := example()
	s.Threads = append(s.Threads, thread(2, 0, 50000, 51000), thread(0, 3, 100, 100))
	wantSlope(t, s, 1, api.OK, span(-4, -2))
	wantSlope(t, s, 2, api.OK, span(1700, 1900))
	for _, wrong := range []int{math.MinInt, -1, 1, math.MaxInt} {
		wantSlope(t, example(), wrong, api.ErrThread, api.Span{})
		wantSlope(t, apart(), wrong, api.ErrThread, api.Span{})
	}
	wantSlope(t, api.Survey{Points: 2}, 0, api.ErrThread, api.Span{})
	wantSlope(t, apart(), 0, api.ErrApart, api.Span{})
}

func TestRuns(t *testing.T) {
	for _, x := range []struct {
		fall  api.Span
		there uint8
		back  uint8
	}{
		{span(1, 5), api.KnownYes, api.KnownNo},
		{span(0, 5), api.KnownOpen, api.KnownNo},
		{span(0, 0), api.KnownNo, api.KnownNo},
		{span(-5, 0), api.KnownNo, api.KnownOpen},
		{span(-5, 1), api.KnownOpen, api.KnownOpen},
		{span(-5, -1), api.KnownNo, api.KnownYes},
	} {
		wantRuns(t, tied(x.fall, span(1, 1)), []int{0, 1, 0}, api.OK, x.there, x.back)
	}
	s := example()
	wantRuns(t, s, nil, api.OK)
	wantRuns(t, s, []int{}, api.OK)
	wantRuns(t, s, []int{3}, api.OK)
	wantRuns(t, s, []int{3, 3, 0, 3}, api.OK, api.KnownNo, api.KnownNo, api.KnownYes)
	wantRuns(t, s, make([]int, api.MaxPoints), api.OK, make([]uint8, api.MaxPoints-1)...)
	for _, survey := range []api.Survey{s, apart()} {
		wantRuns(t, survey, make([]int, api.MaxPoints+1), api.ErrMany)
		wantRuns(t, survey, slices.Repeat([]int{-1}, api.MaxPoints+1), api.ErrMany)
		for _, wrong := range []int{math.MinInt, -1, 4, math.MaxInt} {
			wantRuns(t, survey, []int{wrong}, api.ErrArg)
			wantRuns(t, survey, []int{0, 1, wrong}, api.ErrArg)
		}
	}
	wantRuns(t, apart(), nil, api.ErrApart)
	wantRuns(t, apart(), []int{0, 1}, api.ErrApart)
}
