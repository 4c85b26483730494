package level

import "aflaj/api"

// metre is in millimetres: slopes are told by the metre.
const metre = 1000

// isPoint tells whether a number is a point of the survey.
func isPoint(s api.Survey, point int) bool { return point >= 0 && point < s.Points }

// differ tells whether two numbers are different points of the survey.
func differ(s api.Survey, from, to int) bool {
	return isPoint(s, from) && isPoint(s, to) && from != to
}

// within tells whether a span has numbers, all from low to high.
func within(s api.Span, low, high int) bool {
	return low <= s.Lo && s.Lo <= s.Hi && s.Hi <= high
}

// after returns the point after that with an index: the first one after the last one.
func after(points []int, i int) int { return points[(i+1)%len(points)] }

// isLoop tells whether one can go round along a list of points.
func isLoop(s api.Survey, points []int) bool {
	if len(points) < 2 || len(points) > api.MaxPoints {
		return false
	}
	for i, point := range points {
		if !differ(s, point, after(points, i)) {
			return false
		}
	}
	return true
}

// least returns the least number from low to high for which something is so: it has to be so for high, and for all above one for which it is.
func least[N ~int](low, high N, so func(N) bool) N {
	for low < high {
		middle := low + (high-low)/2
		if so(middle) {
			high = middle
		} else {
			low = middle + 1
		}
	}
	return low
}

// slopes returns the span of all slopes of a fall over some lengths.
func slopes(fall api.Span, lengths ...int) api.Span {
	var all api.Span
	for i, long := range lengths {
		low, high := roundDown(fall.Lo*metre, long), -roundDown(-fall.Hi*metre, long)
		if i == 0 {
			all = api.Span{Lo: low, Hi: high}
		}
		all = api.Span{Lo: min(all.Lo, low), Hi: max(all.Hi, high)}
	}
	return all
}

// roundDown divides by a number above 0.
func roundDown(n, by int) int {
	quotient := n / by
	if n%by < 0 {
		quotient--
	}
	return quotient
}

// above tells whether a number of a span is above 0.
func above(s api.Span) uint8 {
	switch {
	case s.Lo > 0:
		return api.KnownYes
	case s.Hi <= 0:
		return api.KnownNo
	}
	return api.KnownOpen
}
