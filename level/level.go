// Package level is layer 1: surveys by levels and threads, as chapter 01-level.md of the document tells.
package level

import "aflaj/api"

// Check tells whether a survey is valid.
func Check(s api.Survey) api.Errno {
	if s.Points < 1 || s.Points > api.MaxPoints || len(s.Shots) > api.MaxShots || len(s.Marks) > api.MaxBenches || len(s.Threads) > api.MaxThreads {
		return api.ErrSurvey
	}
	for _, shot := range s.Shots {
		if !differ(s, shot.From, shot.To) || !within(shot.Rise, -2*api.MaxHeight, 2*api.MaxHeight) {
			return api.ErrSurvey
		}
	}
	for _, mark := range s.Marks {
		if !isPoint(s, mark.Point) || !within(mark.Height, -api.MaxHeight, api.MaxHeight) {
			return api.ErrSurvey
		}
	}
	for _, thread := range s.Threads {
		if !differ(s, thread.From, thread.To) || !within(thread.Long, 1, api.MaxLong) {
			return api.ErrSurvey
		}
	}
	return api.OK
}

// Heights returns the least and the greatest height of each point.
func Heights(s api.Survey) ([]api.Span, api.Errno) {
	if e := Check(s); e != api.OK {
		return nil, e
	}
	w := work{Survey: s}
	d, fit := w.differences()
	if !fit {
		return nil, api.ErrApart
	}
	heights := make([]api.Span, s.Points)
	for point := range heights {
		heights[point] = d.rise(w.ground(), point)
	}
	return heights, api.OK
}

// Fall returns the least and the greatest fall from a point to another one.
func Fall(s api.Survey, from, to int) (api.Span, api.Errno) {
	if e := Check(s); e != api.OK {
		return api.Span{}, e
	}
	if !isPoint(s, from) || !isPoint(s, to) {
		return api.Span{}, api.ErrArg
	}
	d, fit := work{Survey: s}.differences()
	if !fit {
		return api.Span{}, api.ErrApart
	}
	return d.rise(to, from), api.OK
}

// Loop returns the sum of what single shots say along a list of points, and back to the first one.
func Loop(s api.Survey, points []int) (api.Span, api.Errno) {
	if e := Check(s); e != api.OK {
		return api.Span{}, e
	}
	if !isLoop(s, points) {
		return api.Span{}, api.ErrArg
	}
	sum, apart := api.Span{}, false
	for i, point := range points {
		rise, said := work{Survey: s}.along(way{point, after(points, i)})
		if !said {
			return api.Span{}, api.ErrNone
		}
		// A later pair without a shot is told first, so the loop goes on.
		apart = apart || rise.Lo > rise.Hi
		sum = api.Span{Lo: sum.Lo + rise.Lo, Hi: sum.Hi + rise.Hi}
	}
	if apart {
		return api.Span{}, api.ErrApart
	}
	return sum, api.OK
}

// Clash returns readings that do not fit, though they do without any one of them.
func Clash(s api.Survey) ([]int, api.Errno) {
	if e := Check(s); e != api.OK {
		return nil, e
	}
	w := work{Survey: s}
	if w.fits() {
		return nil, api.ErrNone
	}
	var named []int
	for reading := range w.readings() {
		w.out[reading] = true
		if w.fits() {
			w.out[reading] = false
			named = append(named, reading)
		}
	}
	return named, api.OK
}

// Widen returns the least error of each reading with which all of them fit.
func Widen(s api.Survey) (int, api.Errno) {
	if e := Check(s); e != api.OK {
		return 0, e
	}
	w := work{Survey: s}
	// With so great an error all points may have the height 0.
	return least(0, 2*api.MaxHeight, func(wider int) bool {
		w.wider = wider
		return w.fits()
	}), api.OK
}

// Slope returns the slopes that there may be along a thread.
func Slope(s api.Survey, thread int) (api.Span, api.Errno) {
	if e := Check(s); e != api.OK {
		return api.Span{}, e
	}
	if thread < 0 || thread >= len(s.Threads) {
		return api.Span{}, api.ErrThread
	}
	t := s.Threads[thread]
	fall, e := Fall(s, t.From, t.To)
	if e != api.OK {
		return api.Span{}, e
	}
	return slopes(fall, t.Long.Lo, t.Long.Hi), api.OK
}

// Runs returns whether water runs from each of the points to the next one.
func Runs(s api.Survey, points []int) ([]uint8, api.Errno) {
	if e := Check(s); e != api.OK {
		return nil, e
	}
	if len(points) > api.MaxPoints {
		return nil, api.ErrMany
	}
	for _, point := range points {
		if !isPoint(s, point) {
			return nil, api.ErrArg
		}
	}
	d, fit := work{Survey: s}.differences()
	if !fit {
		return nil, api.ErrApart
	}
	var runs []uint8
	for i := 1; i < len(points); i++ {
		runs = append(runs, above(d.rise(points[i], points[i-1])))
	}
	return runs, api.OK
}
