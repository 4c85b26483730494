package date

import (
	"sort"

	"aflaj/api"
)

// herd is a round at work, with a number of goats.
type herd struct {
	api.Round
	goats int
}

// stop is that a season is not gone, and why.
type stop struct {
	at  int
	why api.Errno
}

// after returns what there is after a season. It ends by a panic with a stop if there is too little for it.
func (h herd) after(at int, had api.State) api.State {
	s := h.Seasons[at]
	if s.Spread > had.Dung.Lo {
		panic(stop{at, api.ErrDung})
	}
	fodder := sum(had.Fodder, s.Grown, wholes(times(h.Boost, s.Spread)))
	eaten := times(h.Eats, h.goats)
	if eaten.Hi > fodder.Lo {
		panic(stop{at, api.ErrHungry})
	}
	return api.State{
		Fodder: less(fodder, eaten),
		Dung:   sum(less(had.Dung, api.Span{Lo: s.Spread, Hi: s.Spread}), times(h.Gives, h.goats)),
	}
}

// states returns what there is after each season, or why one of them is not gone.
func (h herd) states() (states []api.State, stopped stop) {
	defer func() {
		if s, is := recover().(stop); is {
			states, stopped = nil, s
		}
	}()
	now := api.State{Fodder: h.Fodder, Dung: h.Dung}
	for at := range h.Seasons {
		now = h.after(at, now)
		states = append(states, now)
	}
	return states, stop{}
}

// fewest returns the least number of goats with which something is so of why a season is not gone, or one more than MaxGoats: it has to be so with all numbers above one with which it is.
func fewest(r api.Round, so func(why api.Errno) bool) int {
	return sort.Search(api.MaxGoats+1, func(goats int) bool {
		_, stopped := herd{r, goats}.states()
		return so(stopped.why)
	})
}

// goats returns the numbers of goats with which all seasons are gone: none if Lo is above Hi.
func goats(r api.Round) api.Span {
	// With more goats there is more dung, and less fodder, in each season: dung is what lacks first up to a number of them, and fodder from another one on.
	return api.Span{
		Lo: fewest(r, func(why api.Errno) bool { return why != api.ErrDung }),
		Hi: fewest(r, func(why api.Errno) bool { return why == api.ErrHungry }) - 1,
	}
}
