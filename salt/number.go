package salt

import (
	"sort"

	"aflaj/api"
)

// mostMinutes is how many minutes the longest cycle has.
const mostMinutes = api.DayLong * api.MaxCycle

// between tells whether a number is from low to high.
func between(n, low, high int) bool { return low <= n && n <= high }

// within tells whether a span has numbers, all from 0 to most.
func within(s api.Span, most int) bool { return between(s.Lo, 0, s.Hi) && s.Hi <= most }

// down divides by Whole a number that is not below 0, and rounds it down.
func down(thousandths int) int { return thousandths / api.Whole }

// up rounds it up.
func up(thousandths int) int { return (thousandths + api.Whole - 1) / api.Whole }

// greatest returns the greatest number from 0 to most for which something is so: it has to be so for 0, and for all numbers below one for which it is.
func greatest[N ~int](most N, so func(N) bool) N {
	return N(sort.Search(int(most), func(i int) bool { return !so(N(i + 1)) }))
}

// inOrder compares two things by functions that are tried one after the other, until one of them tells which thing is first.
func inOrder[T any](a, b T, by ...func(a, b T) int) int {
	for _, compare := range by {
		if c := compare(a, b); c != 0 {
			return c
		}
	}
	return 0
}

// isSoil tells whether a soil is valid.
func isSoil(s api.Soil) bool {
	return within(s.Salt, api.MaxSalt) && between(s.Limit, 0, api.MaxSalt) && between(s.Crop, 0, api.MaxWater) &&
		within(s.Mineral, api.MaxRate) && within(s.Wash, api.MaxRate) && within(s.Rise, api.MaxSalt)
}

func areSoils(soils []api.Soil) bool {
	for _, s := range soils {
		if !isSoil(s) {
			return false
		}
	}
	return true
}

// areNeeds tells whether needs are valid.
func areNeeds(needs []int) bool {
	for _, n := range needs {
		if !between(n, 0, mostMinutes) {
			return false
		}
	}
	return len(needs) <= api.MaxNeeds
}

// areRents tells whether rents are valid for so many needs.
func areRents(rents []api.Rent, needs int) bool {
	left := mostMinutes
	for _, r := range rents {
		if !between(r.Minutes, 0, left) || !between(r.Price, 0, api.MaxPrice) || !areFields(r.Fields, needs) {
			return false
		}
		left -= r.Minutes
	}
	return len(rents) <= api.MaxRents
}

// areFields tells whether numbers are indices of so many needs, in increasing order.
func areFields(fields []int, needs int) bool {
	next := 0
	for _, f := range fields {
		if !between(f, next, needs-1) {
			return false
		}
		next = f + 1
	}
	return true
}
