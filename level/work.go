package level

import (
	"iter"

	"aflaj/api"
)

// way is from a point to another one.
type way struct{ from, to int }

// back is the way from its end to its beginning.
func (w way) back() way { return way{w.to, w.from} }

// bound is what a reading says: along its way the height rises by a number in rise.
type bound struct {
	way
	rise api.Span
}

// work is a survey at work: readings may be left out, and those that are not be wider than they were read.
type work struct {
	api.Survey
	out   [api.MaxShots + api.MaxBenches]bool
	wider int
}

// ground is one point more than the survey has: its height is 0, so that marks are bounds just as shots are.
func (w work) ground() int { return w.Points }

// readings yields the bounds of all readings, with their indices.
func (w work) readings() iter.Seq2[int, bound] {
	return func(yield func(int, bound) bool) {
		for i, shot := range w.Shots {
			if !yield(i, bound{way{shot.From, shot.To}, shot.Rise}) {
				return
			}
		}
		for i, mark := range w.Marks {
			if !yield(len(w.Shots)+i, bound{way{w.ground(), mark.Point}, mark.Height}) {
				return
			}
		}
	}
}

// along returns what all shots between the ends of a way have in common, and whether there is one: nothing is in common if Lo is above Hi.
func (w work) along(which way) (rise api.Span, said bool) {
	for _, b := range w.readings() {
		if b.way == which.back() {
			b = bound{which, api.Span{Lo: -b.rise.Hi, Hi: -b.rise.Lo}}
		}
		if b.way != which {
			continue
		}
		if !said {
			rise, said = b.rise, true
		}
		rise = api.Span{Lo: max(rise.Lo, b.rise.Lo), Hi: min(rise.Hi, b.rise.Hi)}
	}
	return rise, said
}

// differences are, by two points, the greatest height of the second one less that of the first one.
type differences [api.MaxPoints + 1][api.MaxPoints + 1]int

// rise is the span of the height of to less that of from.
func (d *differences) rise(from, to int) api.Span {
	return api.Span{Lo: -d[to][from], Hi: d[from][to]}
}

// single returns the greatest differences that follow from one reading, or from the limits of heights.
func (w work) single() differences {
	var d differences
	for from := range w.Points {
		for to := range w.Points {
			if from != to {
				d[from][to] = 2 * api.MaxHeight
			}
		}
		d[from][w.ground()] = api.MaxHeight
		d[w.ground()][from] = api.MaxHeight
	}
	for reading, b := range w.readings() {
		if !w.out[reading] {
			d[b.from][b.to] = min(d[b.from][b.to], b.rise.Hi+w.wider)
			d[b.to][b.from] = min(d[b.to][b.from], w.wider-b.rise.Lo)
		}
	}
	return d
}

// differences returns the greatest differences of all heights that fit, and whether there are any.
func (w work) differences() (differences, bool) {
	d, fit := w.single(), true
points:
	for over := range w.Points + 1 {
		for from := range w.Points + 1 {
			for to := range w.Points + 1 {
				d[from][to] = min(d[from][to], d[from][over]+d[over][to])
				// A point below itself: to go on would also double what is below 0 again and again.
				if d[from][from] < 0 {
					fit = false
					break points
				}
			}
		}
	}
	return d, fit
}

// fits tells whether some heights fit.
func (w work) fits() bool {
	_, fit := w.differences()
	return fit
}
