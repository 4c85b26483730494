package salt

import (
	"iter"

	"aflaj/api"
)

// work is a soil at work: water is what comes in each cycle.
type work struct {
	api.Soil
	water api.Span
}

// end is a kind of end of spans: the number of a span that leads to it, the one by which less does, which of two numbers is nearer to it, and how thousandths are rounded to it.
type end struct {
	of, against func(api.Span) int
	nearer      func(a, b int) int
	round       func(thousandths int) int
}

func lo(s api.Span) int { return s.Lo }

func hi(s api.Span) int { return s.Hi }

// lowest is the end of a span at which there is least.
func lowest() end {
	return end{of: lo, against: hi, nearer: func(a, b int) int { return min(a, b) }, round: down}
}

// highest is the one at which there is most.
func highest() end {
	return end{of: hi, against: lo, nearer: func(a, b int) int { return max(a, b) }, round: up}
}

// with returns the salt after a cycle with so much water, at an end, in thousandths of a gram.
func (w work) with(water int, e end) int {
	salt := (e.of(w.Salt)+e.of(w.Rise))*api.Whole + water*e.of(w.Mineral)
	return max(salt-max(water-w.Crop, 0)*e.against(w.Wash), 0)
}

// told returns what is told of an end of the salt after a cycle.
func (w work) told(e end) int {
	// More water changes the salt in one direction until it is Crop, and in one from there on.
	turns := min(max(w.Crop, w.water.Lo), w.water.Hi)
	salt := e.nearer(w.with(w.water.Lo, e), w.with(w.water.Hi, e))
	return e.round(e.nearer(salt, w.with(turns, e)))
}

// after yields the soil after each of some cycles.
func (w work) after(cycles int) iter.Seq[work] {
	return func(yield func(work) bool) {
		later := w
		for range cycles {
			later.Salt = api.Span{Lo: later.told(lowest()), Hi: later.told(highest())}
			if !yield(later) {
				return
			}
		}
	}
}

// need returns the least number of litres, from Crop on, with which the salt is for sure at most Limit, and whether there is one.
func (w work) need() (int, bool) {
	salty := func(more int) bool { return w.with(w.Crop+more, highest()) > w.Limit*api.Whole }
	if !salty(0) {
		return w.Crop, true
	}
	// If it is salty at Crop, more water makes it less so from some litre on, or not at all.
	more := greatest(api.MaxWater-w.Crop, salty) + 1
	return w.Crop + more, w.Crop+more <= api.MaxWater
}
