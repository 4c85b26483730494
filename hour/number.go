package hour

import "aflaj/api"

// mostTurn is the last minute of the longest cycle, and of its last turn.
const mostTurn = api.MaxCycle * api.DayLong

// ends are the first and the last thousandth of a minute of a time. Whatever is told of a moment, it ends at whole thousandths.
type ends [2]int

// always is when moments may be.
var always = ends{-api.MaxMoment * api.Whole, api.MaxMoment * api.Whole}

// never is what cut returns of times that have nothing in common.
var never = ends{1, 0}

// scaled returns the numbers of a span, times a number that is not below 0.
func scaled(s api.Span, times int) ends { return ends{s.Lo * times, s.Hi * times} }

// later returns when it may be so much after a time.
func (t ends) later(much ends) ends { return ends{t[0] + much[0], t[1] + much[1]} }

// earlier returns when it may be so much before a time.
func (t ends) earlier(much ends) ends { return ends{t[0] - much[1], t[1] - much[0]} }

// minutes returns the least span of whole minutes that has all of a time.
func (t ends) minutes() api.Span { return api.Span{Lo: floor(t[0]), Hi: -floor(-t[1])} }

// floor returns the last whole minute up to a thousandth.
func floor(thousandth int) int {
	whole := thousandth / api.Whole
	// Division goes towards 0, which is up for minutes before it.
	if thousandth%api.Whole < 0 {
		whole--
	}
	return whole
}

// cut returns what all times have in common.
func cut(times ...ends) ends {
	common := always
	for _, t := range times {
		common = ends{max(common[0], t[0]), min(common[1], t[1])}
	}
	if common[0] > common[1] {
		return never
	}
	return common
}

// every tells whether something is so of all things of a list.
func every[T any](list []T, so func(T) bool) bool {
	for _, thing := range list {
		if !so(thing) {
			return false
		}
	}
	return true
}

// within tells whether a span has numbers, all from low to high.
func within(s api.Span, low, high int) bool {
	return low <= s.Lo && s.Lo <= s.Hi && s.Hi <= high
}

// areMinutes tells whether a span has minutes that may be told.
func areMinutes(s api.Span) bool { return within(s, -api.MaxMinute, api.MaxMinute) }

// areMarks tells whether marks are valid for a clock.
func areMarks(marks []api.Span) bool {
	before := api.Span{Lo: -api.MaxMinute, Hi: -api.MaxMinute}
	return len(marks) <= api.MaxShades && every(marks, func(m api.Span) bool {
		inOrder := before.Lo <= m.Lo && before.Hi <= m.Hi
		before = m
		return inOrder && areMinutes(m)
	})
}

// areStars tells whether stars are valid for a clock.
func areStars(stars []api.Star) bool {
	return len(stars) <= api.MaxStars && every(stars, func(s api.Star) bool {
		return areMinutes(s.Rise) && within(s.Shift, 0, api.MaxShift)
	})
}

// areTurns tells whether turns are valid.
func areTurns(turns []api.Turn) bool {
	end := 0
	return len(turns) <= api.MaxTurns && every(turns, func(t api.Turn) bool {
		inOrder := end <= t.From && t.From < t.To && t.To <= mostTurn
		end = t.To
		return inOrder
	})
}
