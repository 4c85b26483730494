package channel

import (
	"slices"
	"sort"

	"aflaj/api"
)

// mostFlow is what may flow past the last shaft of a gallery: what flows in, and what each of its reaches gains.
const mostFlow = api.MaxFlow * (api.MaxReaches + 1)

// between tells whether a number is from low to high.
func between(n, low, high int) bool { return low <= n && n <= high }

// within tells whether a span has numbers, all from 0 to most.
func within(s api.Span, most int) bool { return between(s.Lo, 0, s.Hi) && s.Hi <= most }

// roundUp divides by Whole a number that is not below 0.
func roundUp(thousandths int) int { return (thousandths + api.Whole - 1) / api.Whole }

// sum returns what several numbers are together of which spans are known.
func sum(spans ...api.Span) api.Span {
	var all api.Span
	for _, s := range spans {
		all = api.Span{Lo: all.Lo + s.Lo, Hi: all.Hi + s.Hi}
	}
	return all
}

// least returns the least number from 0 to most for which something is so, and whether there is one: it has to be so for all numbers above one for which it is.
func least[N ~int](most N, so func(N) bool) (N, bool) {
	n := N(sort.Search(int(most)+1, func(i int) bool { return so(N(i)) }))
	return n, n <= most
}

// isNet tells whether a net is valid.
func isNet(n api.Net) bool {
	return areCanals(n.Canals) && areFields(n.Fields, len(n.Canals)) &&
		between(n.Dry, 0, api.DayLong*api.MaxCycle) && between(n.Days, 1, api.MaxCycle)
}

func areCanals(canals []api.Canal) bool {
	for i, c := range canals {
		if !between(c.From, 0, i) || !within(c.Seep, api.Whole) || !within(c.Fill, api.MaxFill) {
			return false
		}
	}
	return len(canals) <= api.MaxCanals
}

// areFields tells whether nodes are those of fields, if there are nodes from 0 to last.
func areFields(nodes []int, last int) bool {
	if len(nodes) > api.MaxFields {
		return false
	}
	for i, node := range nodes {
		if !between(node, 0, last) || slices.Contains(nodes[:i], node) {
			return false
		}
	}
	return true
}
