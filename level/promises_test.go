package level_test

import (
	"math"
	"slices"
	"testing"

	"aflaj/api"
	"aflaj/level"
)

// dice are numbers that look thrown, and are the same in every run.
type dice struct{ state uint64 }

// from returns a number from low to high.
func (d *dice) from(low, high int) int {
	d.state = d.state*6364136223846793005 + 1442695040888963407
	return low + int((d.state>>33)%uint64(high-low+1))
}

// around returns a span with a number, whose ends are at most far from it, and within limits.
func (d *dice) around(n, far, low, high int) api.Span {
	return span(max(low, n-d.from(0, far)), min(high, n+d.from(0, far)))
}

func copied(s api.Survey) api.Survey {
	s.Shots, s.Marks, s.Threads = slices.Clone(s.Shots), slices.Clone(s.Marks), slices.Clone(s.Threads)
	return s
}

func inside(n int, s api.Span) bool { return s.Lo <= n && n <= s.Hi }

// narrower tells whether all of one span is in another one.
func narrower(one, other api.Span) bool { return inside(one.Lo, other) && inside(one.Hi, other) }

// theyFit tells, from the chapter's words alone, whether heights fit a survey if readings are wider.
func theyFit(s api.Survey, heights []int, wider int) bool {
	for _, h := range heights {
		if !inside(h, span(-api.MaxHeight, api.MaxHeight)) {
			return false
		}
	}
	for _, x := range s.Shots {
		if !inside(heights[x.To]-heights[x.From], span(x.Rise.Lo-wider, x.Rise.Hi+wider)) {
			return false
		}
	}
	for _, x := range s.Marks {
		if !inside(heights[x.Point], span(x.Height.Lo-wider, x.Height.Hi+wider)) {
			return false
		}
	}
	return true
}

// tried goes through all heights of three points that are at most far from a base, and fit.
func tried(s api.Survey, base, far, wider int, found func(heights []int) bool) {
	for a := base - far; a <= base+far; a++ {
		for b := base - far; b <= base+far; b++ {
			for c := base - far; c <= base+far; c++ {
				heights := []int{a, b, c}
				if theyFit(s, heights, wider) && !found(heights) {
					return
				}
			}
		}
	}
}

func someFit(s api.Survey, base, far, wider int) bool {
	some := false
	tried(s, base, far, wider, func([]int) bool {
		some = true
		return false
	})
	return some
}

// small throws a survey of three points whose readings are all near a base.
func small(d *dice, shots, marks, base int) api.Survey {
	s := api.Survey{Points: 3}
	for range shots {
		from := d.from(0, 2)
		s.Shots = append(s.Shots, api.Shot{From: from, To: (from + d.from(1, 2)) % 3, Rise: d.around(d.from(-2, 2), 1, -3, 3)})
	}
	for i := range marks {
		at := d.around(base+d.from(-2, 2), 1, base-3, base+3)
		s.Marks = append(s.Marks, mark(i%3, min(max(at.Lo, -api.MaxHeight), api.MaxHeight), min(max(at.Hi, -api.MaxHeight), api.MaxHeight)))
	}
	return s
}

// bases are heights in the middle, and at the limits.
var bases = [3]int{0, api.MaxHeight, -api.MaxHeight}

// TestSpansOfAllHeights compares heights and falls with those of all heights that fit, tried one by one.
func TestSpansOfAllHeights(t *testing.T) {
	d, fitting, not := &dice{1}, 0, 0
	for round := range 900 {
		base := bases[round%3]
		s := small(d, d.from(1, 4), 3+d.from(0, 1), base)
		least, greatest := [3][3]int{}, [3][3]int{}
		low, high, some := [3]int{}, [3]int{}, false
		tried(s, base, 4, 0, func(h []int) bool {
			for i := range 3 {
				for j := range 3 {
					if !some || h[i]-h[j] < least[i][j] {
						least[i][j] = h[i] - h[j]
					}
					if !some || h[i]-h[j] > greatest[i][j] {
						greatest[i][j] = h[i] - h[j]
					}
				}
				if !some || h[i] < low[i] {
					low[i] = h[i]
				}
				if !some || h[i] > high[i] {
					high[i] = h[i]
				}
			}
			some = true
			return true
		})
		if !some {
			not++
			wantHeights(t, s, api.ErrApart)
			wantFall(t, s, 0, 1, api.ErrApart, api.Span{})
			continue
		}
		fitting++
		wantHeights(t, s, api.OK, span(low[0], high[0]), span(low[1], high[1]), span(low[2], high[2]))
		for i := range 3 {
			for j := range 3 {
				wantFall(t, s, i, j, api.OK, span(least[i][j], greatest[i][j]))
			}
		}
	}
	if fitting < 50 || not < 50 {
		t.Error("too few surveys of a kind:", fitting, not)
	}
}

// without returns a survey with those of its readings alone that are kept.
func without(s api.Survey, keep func(reading int) bool) api.Survey {
	rest := api.Survey{Points: s.Points}
	for i, x := range s.Shots {
		if keep(i) {
			rest.Shots = append(rest.Shots, x)
		}
	}
	for i, x := range s.Marks {
		if keep(len(s.Shots) + i) {
			rest.Marks = append(rest.Marks, x)
		}
	}
	return rest
}

// far is so far from the base that there is room for points without marks: readings are at most 3 from it, and so are errors.
const far = 18

// TestNamedReadings checks that the readings that are named do not fit, do without any one of them, and are those that the chapter's way leaves.
func TestNamedReadings(t *testing.T) {
	d, clashes := &dice{2}, 0
	for round := range 120 {
		base := bases[round%3]
		s := small(d, d.from(1, 4), d.from(1, 4), base)
		named, e := level.Clash(s)
		if someFit(s, base, far, 0) {
			if len(named) != 0 || e != api.ErrNone {
				t.Error(s, named, e)
			}
			continue
		}
		clashes++
		left := map[int]bool{}
		var want []int
		for reading := range len(s.Shots) + len(s.Marks) {
			left[reading] = true
			if someFit(without(s, func(i int) bool { return !left[i] }), base, far, 0) {
				left[reading] = false
				want = append(want, reading)
			}
		}
		if !slices.Equal(named, want) || e != api.OK {
			t.Error(s, named, e, want)
		}
		if someFit(without(s, func(i int) bool { return slices.Contains(named, i) }), base, far, 0) {
			t.Error(s, named, "fit")
		}
		for _, one := range named {
			if !someFit(without(s, func(i int) bool { return i != one && slices.Contains(named, i) }), base, far, 0) {
				t.Error(s, named, "do not fit without", one)
			}
		}
	}
	if clashes < 30 {
		t.Error("too few clashes:", clashes)
	}
}

// TestOpenLoopIsConflict checks that a loop that does not close is a conflict, though one that closes need be none.
func TestOpenLoopIsConflict(t *testing.T) {
	d, open := &dice{3}, 0
	for range 300 {
		s := api.Survey{Points: 4}
		for from := range 4 {
			s.Shots = append(s.Shots, api.Shot{From: from, To: (from + 1) % 4, Rise: d.around(d.from(-3, 3), 2, -9, 9)})
		}
		sum, e := level.Loop(s, []int{0, 1, 2, 3})
		if e != api.OK {
			t.Fatal(s, e)
		}
		if inside(0, sum) {
			wantClash(t, s, api.ErrNone)
		} else {
			open++
			wantClash(t, s, api.OK, 0, 1, 2, 3)
		}
	}
	if open < 50 {
		t.Error("too few open loops:", open)
	}
}

// TestLeastError checks that readings fit with the error that is told, and not with less.
func TestLeastError(t *testing.T) {
	d, wide := &dice{4}, 0
	for round := range 120 {
		base := bases[round%3]
		s := small(d, d.from(1, 4), d.from(1, 5), base)
		wider, e := level.Widen(s)
		if e != api.OK || wider < 0 {
			t.Fatal(s, wider, e)
		}
		if !someFit(s, base, far, wider) {
			t.Error(s, wider, "is too little")
		}
		if wider > 0 {
			wide++
			if someFit(s, base, far, wider-1) {
				t.Error(s, wider, "is too much")
			}
		}
	}
	if wide < 30 {
		t.Error("too few that are wider:", wide)
	}
}

// truth throws heights, and a survey of them with true readings and lengths.
func truth(d *dice) (s api.Survey, heights, lengths []int) {
	s.Points = d.from(2, api.MaxPoints)
	great := []int{5, 3000, api.MaxHeight}[d.from(0, 2)]
	for range s.Points {
		heights = append(heights, d.from(-great, great))
	}
	for range d.from(0, api.MaxShots) {
		from := d.from(0, s.Points-1)
		to := (from + d.from(1, s.Points-1)) % s.Points
		s.Shots = append(s.Shots, api.Shot{From: from, To: to, Rise: d.around(heights[to]-heights[from], great/2, -2*api.MaxHeight, 2*api.MaxHeight)})
	}
	for range d.from(0, api.MaxBenches) {
		point := d.from(0, s.Points-1)
		s.Marks = append(s.Marks, api.Mark{Point: point, Height: d.around(heights[point], great/2, -api.MaxHeight, api.MaxHeight)})
	}
	for range d.from(1, api.MaxThreads) {
		from := d.from(0, s.Points-1)
		long := d.from(1, []int{3, 5000, api.MaxLong}[d.from(0, 2)])
		lengths = append(lengths, long)
		s.Threads = append(s.Threads, api.Thread{From: from, To: (from + d.from(1, s.Points-1)) % s.Points, Long: d.around(long, long, 1, api.MaxLong)})
	}
	return s, heights, lengths
}

// TestTruthIsTold checks that true readings leave the truth in all that is told.
func TestTruthIsTold(t *testing.T) {
	d := &dice{5}
	for range 150 {
		s, heights, lengths := truth(d)
		told, e := level.Heights(s)
		if e != api.OK || len(told) != s.Points {
			t.Fatal(s, told, e)
		}
		points := make([]int, api.MaxPoints)
		for i := range points {
			points[i] = d.from(0, s.Points-1)
		}
		for point, h := range heights {
			if !inside(h, told[point]) {
				t.Error(s, point, h, told[point])
			}
		}
		for i, long := range lengths {
			x := s.Threads[i]
			slope, e := level.Slope(s, i)
			if by := (heights[x.From] - heights[x.To]) * 1000; e != api.OK || slope.Lo*long > by || by > slope.Hi*long {
				t.Error(s, i, slope, e)
			}
		}
		runs, e := level.Runs(s, points)
		if e != api.OK || len(runs) != len(points)-1 {
			t.Fatal(s, runs, e)
		}
		for i, run := range runs {
			by := heights[points[i]] - heights[points[i+1]]
			if fall, e := level.Fall(s, points[i], points[i+1]); e != api.OK || !inside(by, fall) {
				t.Error(s, by, fall, e)
			}
			if run == api.KnownYes && by <= 0 || run == api.KnownNo && by > 0 || run > api.KnownYes {
				t.Error(s, i, run, by)
			}
		}
		wantClash(t, s, api.ErrNone)
		wantWiden(t, s, 0)
	}
}

// ends returns all lowest, and all highest heights: either fit together.
func ends(heights []api.Span) (low, high []int) {
	for _, h := range heights {
		low, high = append(low, h.Lo), append(high, h.Hi)
	}
	return low, high
}

// TestEndsAreReached checks that heights that fit reach each end of a height and of a fall.
func TestEndsAreReached(t *testing.T) {
	d := &dice{6}
	for range 100 {
		s, _, _ := truth(d)
		told, _ := level.Heights(s)
		low, high := ends(told)
		if !theyFit(s, low, 0) || !theyFit(s, high, 0) {
			t.Error(s, told)
		}
		if len(s.Shots) == api.MaxShots {
			s.Shots = s.Shots[:api.MaxShots-1]
		}
		from, to := d.from(0, s.Points-1), d.from(0, s.Points-1)
		fall, e := level.Fall(s, from, to)
		if e != api.OK {
			t.Fatal(s, e)
		}
		for _, end := range []int{fall.Lo, fall.Hi} {
			if from == to {
				break
			}
			exact := copied(s)
			exact.Shots = append(exact.Shots, shot(to, from, end, end))
			told, e := level.Heights(exact)
			if e != api.OK {
				t.Fatal(s, from, to, fall, e)
			}
			if low, _ := ends(told); !theyFit(s, low, 0) || low[from]-low[to] != end {
				t.Error(s, from, to, fall, low)
			}
		}
	}
}

// TestErrorsOfReadings checks that no more is told than the error by which readings are wrong at most.
func TestErrorsOfReadings(t *testing.T) {
	d, wrong := &dice{7}, 0
	for range 100 {
		s, _, _ := truth(d)
		by := d.from(1, 40)
		for i := range s.Shots {
			x := &s.Shots[i].Rise
			if off := d.from(-by, by); inside(x.Lo+off, span(-2*api.MaxHeight, x.Hi)) && inside(x.Hi+off, span(x.Lo, 2*api.MaxHeight)) {
				*x = span(x.Lo+off, x.Hi+off)
			}
		}
		for i := range s.Marks {
			x := &s.Marks[i].Height
			if off := d.from(-by, by); inside(x.Lo+off, span(-api.MaxHeight, x.Hi)) && inside(x.Hi+off, span(x.Lo, api.MaxHeight)) {
				*x = span(x.Lo+off, x.Hi+off)
			}
		}
		told, e := level.Widen(s)
		if e != api.OK || !inside(told, span(0, by)) {
			t.Error(s, by, told, e)
		}
		if told > 0 {
			wrong++
		}
	}
	if wrong < 10 {
		t.Error("too few that are wrong:", wrong)
	}
}

// better returns a survey with a reading more, or with one that is known better.
func better(d *dice, s api.Survey, heights []int) api.Survey {
	s = copied(s)
	point := d.from(0, s.Points-1)
	if len(s.Marks) < api.MaxBenches && d.from(0, 1) == 0 {
		s.Marks = append(s.Marks, api.Mark{Point: point, Height: d.around(heights[point], 50, -api.MaxHeight, api.MaxHeight)})
	} else if len(s.Shots) > 0 {
		x := &s.Shots[d.from(0, len(s.Shots)-1)]
		by := heights[x.To] - heights[x.From]
		x.Rise = span(d.from(x.Rise.Lo, by), d.from(by, x.Rise.Hi))
	}
	x := &s.Threads[0].Long
	*x = span(d.from(x.Lo, x.Hi), x.Hi)
	return s
}

// TestMoreIsNotWider checks that nothing is told wider with more readings, or better ones.
func TestMoreIsNotWider(t *testing.T) {
	d := &dice{8}
	for range 150 {
		s, heights, _ := truth(d)
		more := better(d, s, heights)
		was, _ := level.Heights(s)
		is, e := level.Heights(more)
		if e != api.OK {
			t.Fatal(more, e)
		}
		for point := range was {
			if !narrower(is[point], was[point]) {
				t.Error(s, more, point)
			}
			fallWas, _ := level.Fall(s, 0, point)
			if fallIs, e := level.Fall(more, 0, point); e != api.OK || !narrower(fallIs, fallWas) {
				t.Error(s, more, point)
			}
			runWas, _ := level.Runs(s, []int{0, point})
			if runIs, e := level.Runs(more, []int{0, point}); e != api.OK || runWas[0] != api.KnownOpen && runIs[0] != runWas[0] {
				t.Error(s, more, point)
			}
		}
		slopeWas, _ := level.Slope(s, 0)
		if slopeIs, e := level.Slope(more, 0); e != api.OK || !narrower(slopeIs, slopeWas) {
			t.Error(s, more)
		}
	}
}

// TestFallsOverPoints checks falls there and back, and over a third point.
func TestFallsOverPoints(t *testing.T) {
	d := &dice{9}
	for range 60 {
		s, _, _ := truth(d)
		fall := func(from, to int) api.Span {
			told, e := level.Fall(s, from, to)
			if e != api.OK {
				t.Fatal(s, from, to, e)
			}
			return told
		}
		for range 30 {
			a, b, c := d.from(0, s.Points-1), d.from(0, s.Points-1), d.from(0, s.Points-1)
			there, back := fall(a, b), fall(b, a)
			if there != span(-back.Hi, -back.Lo) {
				t.Error(s, a, b, there, back)
			}
			first, second := fall(a, c), fall(c, b)
			if !narrower(there, span(first.Lo+second.Lo, first.Hi+second.Hi)) {
				t.Error(s, a, b, c)
			}
		}
	}
}

// spare returns a list with more room than it needs, full of something else.
func spare[T any](list []T, other T) []T {
	long := append(slices.Clone(list), other, other, other)
	return long[:len(list)]
}

// callAll calls all functions, and returns what they tell.
func callAll(s api.Survey, points []int, n int) (all []any) {
	heights, e1 := level.Heights(s)
	fall, e2 := level.Fall(s, n, 0)
	loop, e3 := level.Loop(s, points)
	clash, e4 := level.Clash(s)
	wider, e5 := level.Widen(s)
	slope, e6 := level.Slope(s, n)
	runs, e7 := level.Runs(s, points)
	return []any{level.Check(s), heights, fall, loop, clash, wider, slope, runs, e1, e2, e3, e4, e5, e6, e7}
}

// TestArgumentsStay checks that nothing is written to arguments, nor to the room behind them, and that results are new.
func TestArgumentsStay(t *testing.T) {
	otherShot, otherMark, otherThread := shot(77, 78, 79, 80), mark(81, 82, 83), thread(84, 85, 86, 87)
	for _, s := range []api.Survey{example(), apart()} {
		given := api.Survey{Points: s.Points, Shots: spare(s.Shots, otherShot), Marks: spare(s.Marks, otherMark), Threads: spare(s.Threads, otherThread)}
		points := spare([]int{0, 1, 2}, 88)
		callAll(given, points, 0)
		if !slices.Equal(points[:6], []int{0, 1, 2, 88, 88, 88}) ||
			!slices.Equal(given.Shots[:len(s.Shots)+3], append(s.Shots, otherShot, otherShot, otherShot)) ||
			!slices.Equal(given.Marks[:len(s.Marks)+3], append(s.Marks, otherMark, otherMark, otherMark)) ||
			!slices.Equal(given.Threads[:len(s.Threads)+3], append(s.Threads, otherThread, otherThread, otherThread)) {
			t.Error(given, points)
		}
	}
	points := []int{0, 1, 2, 3}
	first, _ := level.Heights(example())
	runs, _ := level.Runs(example(), points)
	named, _ := level.Clash(apart())
	clear(first)
	clear(runs)
	clear(named)
	wantHeights(t, example(), api.OK, span(1000, 1000), span(890, 900), span(840, 850), span(810, 830))
	wantRuns(t, example(), points, api.OK, api.KnownYes, api.KnownYes, api.KnownYes)
	wantClash(t, apart(), api.OK, 0, 1, 2)
}

// TestAnyValue calls all functions with surveys of numbers from everywhere: each call ends, and all agree on which surveys are valid.
func TestAnyValue(t *testing.T) {
	d, valid := &dice{10}, 0
	throw := func() int {
		strange := [...]int{math.MinInt, math.MinInt + 1, -20000001, -20000000, -10000001, -10000000, -1, 0, 1, 2, 10000000, 10000001, 20000000, 20000001, 100000000, 100000001, math.MaxInt}
		if d.from(0, 30) == 0 {
			return strange[d.from(0, len(strange)-1)]
		}
		return d.from(0, 3)
	}
	for range 3000 {
		s := api.Survey{Points: throw()}
		for range d.from(0, 4) {
			s.Shots = append(s.Shots, shot(throw(), throw(), throw(), throw()))
		}
		for range d.from(0, 2) {
			s.Marks = append(s.Marks, mark(throw(), throw(), throw()))
		}
		for range d.from(0, 1) {
			s.Threads = append(s.Threads, thread(throw(), throw(), throw(), throw()))
		}
		points := []int{throw(), throw(), throw()}
		all := callAll(s, points, throw())
		if all[0] == api.OK {
			valid++
		}
		for i, e := range all[8:] {
			if (all[0] == api.ErrSurvey) != (e == api.ErrSurvey) {
				t.Error(s, i, all)
			}
		}
	}
	if valid < 100 {
		t.Error("too few valid surveys:", valid)
	}
}
