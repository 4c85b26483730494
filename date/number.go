package date

import "aflaj/api"

// between tells whether a number is from low to high.
func between(n, low, high int) bool { return low <= n && n <= high }

// every tells whether something is so of all things of a list.
func every[T any](list []T, so func(T) bool) bool {
	for _, thing := range list {
		if !so(thing) {
			return false
		}
	}
	return true
}

// areWithin tells whether spans have numbers, all from 0 to most.
func areWithin(most int, spans ...api.Span) bool {
	return every(spans, func(s api.Span) bool { return between(s.Lo, 0, s.Hi) && s.Hi <= most })
}

// sum returns what several numbers are together of which spans are known.
func sum(spans ...api.Span) api.Span {
	var all api.Span
	for _, s := range spans {
		all = api.Span{Lo: all.Lo + s.Lo, Hi: all.Hi + s.Hi}
	}
	return all
}

// times returns what so many numbers of a span are together.
func times(s api.Span, many int) api.Span { return api.Span{Lo: s.Lo * many, Hi: s.Hi * many} }

// less returns what is left of a number if another one is taken from it: nothing if that is greater.
func less(from, taken api.Span) api.Span {
	return api.Span{Lo: max(from.Lo-taken.Hi, 0), Hi: max(from.Hi-taken.Lo, 0)}
}

// lesser returns the lesser one of two numbers.
func lesser(one, other api.Span) api.Span {
	return api.Span{Lo: min(one.Lo, other.Lo), Hi: min(one.Hi, other.Hi)}
}

// wholes divides by Whole numbers that are not below 0, and rounds the least one down, and the greatest one up.
func wholes(thousandths api.Span) api.Span {
	return api.Span{Lo: thousandths.Lo / api.Whole, Hi: (thousandths.Hi + api.Whole - 1) / api.Whole}
}

// isFruit tells whether a fruit is valid.
func isFruit(f api.Fruit) bool {
	return areWithin(api.Whole, f.Wet) && areWithin(api.MaxDry, f.Dry) &&
		between(f.Soft, f.Half, api.Whole) && f.Half >= 0 && between(f.Keep, 0, api.MaxKeep) &&
		every(f.Prices[:], func(price int) bool { return between(price, 0, api.MaxCost) })
}

// isBunch tells whether a bunch is valid.
func isBunch(b api.Bunch) bool {
	return between(len(b.Ripe), 1, api.MaxRipe) && areWithin(api.MaxDates, b.Ripe...) && areWithin(api.MaxBirds, b.Birds)
}

// areCuts tells whether days are cuts of a bunch with so many days.
func areCuts(cuts []int, days int) bool {
	next := 0
	return every(cuts, func(c int) bool {
		inOrder := between(c, next, days-1)
		next = c + 1
		return inOrder
	})
}

// isRound tells whether a round is valid.
func isRound(r api.Round) bool {
	return areWithin(api.MaxStore, r.Fodder, r.Dung) && areWithin(api.MaxEats, r.Eats, r.Gives) && areWithin(api.Whole, r.Boost) &&
		len(r.Seasons) <= api.MaxSeasons && every(r.Seasons, func(s api.Season) bool {
		return areWithin(api.MaxStore, s.Grown) && between(s.Spread, 0, api.MaxStore)
	})
}
