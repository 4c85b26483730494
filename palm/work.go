package palm

import (
	"iter"
	"slices"

	"aflaj/api"
)

// job is a work that is done.
type job struct{ api.Work }

// begin returns the job of a work, or the error if palms or the work are not valid.
func begin(l []api.Palm, w api.Work) (job, api.Errno) {
	known, _, e := Known(l)
	if e != api.OK {
		return job{}, e
	}
	if !isWork(w, known) {
		return job{}, api.ErrWork
	}
	return job{w}, api.OK
}

// isWork tells whether a work is valid for palms of which all is told that is known.
func isWork(w api.Work, known []api.Palm) bool {
	return within(upTo(api.MaxDay), w.Day) && within(api.Span{Lo: 1, Hi: api.MaxOpen}, w.Open) &&
		areHours(w.Hours) && areSpathes(w, known) && areLots(w, known)
}

func areHours(hours []int) bool {
	next := 0
	for _, h := range hours {
		if !within(api.Span{Lo: next, Hi: api.MaxHour}, h) {
			return false
		}
		next = h + 1
	}
	return len(hours) <= api.MaxHours
}

func areSpathes(w api.Work, known []api.Palm) bool {
	for _, s := range w.Spathes {
		if !bears(known, s.Palm, api.SexFemale, w.Day) || !within(upTo(api.MaxHour), s.Cracks.Lo, s.Cracks.Hi) || s.Cracks.Lo > s.Cracks.Hi {
			return false
		}
	}
	return len(w.Spathes) <= api.MaxSpathes
}

func areLots(w api.Work, known []api.Palm) bool {
	for _, lot := range w.Lots {
		if !bears(known, lot.Palm, api.SexMale, w.Day) || !within(upTo(api.MaxUnits), lot.Units) || !within(upTo(api.MaxHour), lot.From, lot.To) || lot.From > lot.To {
			return false
		}
	}
	return len(w.Lots) <= api.MaxLots
}

// bears tells whether there is a palm with an Id that is of a sex, and old enough on a day.
func bears(known []api.Palm, id int, sex uint8, day int) bool {
	return slices.ContainsFunc(known, func(p api.Palm) bool {
		return p.Id == id && p.Sex == sex && day-p.Planted >= api.MinBears
	})
}

// slots yields the indices of the hours in which a spathe can be pollinated.
func (j job) slots(spathe int) iter.Seq[int] {
	// It is out for sure from Hi on, and takes pollen for sure as if it had come out at Lo.
	cracks := j.Spathes[spathe].Cracks
	return j.hours(api.Span{Lo: cracks.Hi, Hi: cracks.Lo + j.Open - 1})
}

// times yields the indices of the hours in which a lot is good.
func (j job) times(lot int) iter.Seq[int] {
	return j.hours(api.Span{Lo: j.Lots[lot].From, Hi: j.Lots[lot].To - 1})
}

// hours yields the indices of the hours that are in a span.
func (j job) hours(s api.Span) iter.Seq[int] {
	return func(yield func(int) bool) {
		for i, h := range j.Hours {
			if within(s, h) && !yield(i) {
				return
			}
		}
	}
}

// setOf returns the set of what is yielded.
func setOf(indices iter.Seq[int]) set {
	var s set
	for i := range indices {
		s = s.with(i)
	}
	return s
}
