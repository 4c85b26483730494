package palm

import (
	"math/bits"

	"aflaj/api"
)

// upTo is the span from 0 to a number.
func upTo(most int) api.Span { return api.Span{Hi: most} }

// within tells whether numbers are all in a span.
func within(s api.Span, numbers ...int) bool {
	for _, n := range numbers {
		if n < s.Lo || n > s.Hi {
			return false
		}
	}
	return true
}

// set is things of a list: the one with the index i is in it if the bit i is.
type set int

// all returns the set of so many things.
func all(many int) set { return 1<<many - 1 }

// has tells whether a thing is in a set.
func (s set) has(index int) bool { return s>>index&1 == 1 }

// with returns a set with one thing more.
func (s set) with(index int) set { return s | 1<<index }

// many returns how many things a set has.
func (s set) many() int { return bits.OnesCount(uint(s)) }

// indices returns the indices of the things of a set in ascending order, if they are among so many.
func (s set) indices(many int) []int {
	var l []int
	for i := range many {
		if s.has(i) {
			l = append(l, i)
		}
	}
	return l
}

// named returns the set of the things of a list that indices name, and whether these are such indices, in increasing order.
func named[T any](things []T, indices []int) (set, bool) {
	var s set
	next := 0
	for _, i := range indices {
		if !within(api.Span{Lo: next, Hi: len(things) - 1}, i) {
			return 0, false
		}
		s = s.with(i)
		next = i + 1
	}
	return s, true
}

// together returns, for each set of some sets, what they have together.
func together(sets []set) []set {
	sums := make([]set, 1<<len(sets))
	for which := range sums {
		for i, s := range sets {
			if set(which).has(i) {
				sums[which] |= s
			}
		}
	}
	return sums
}
