package gallery

import "aflaj/api"

// mostFlow is more than flows past any shaft: what flows in, and is gained in each reach.
const mostFlow = api.MaxFlow * (api.MaxReaches + 1)

// parts are those of a litre in which years tell what comes of their rain.
const parts = 1000

// cut returns what two spans have in common: nothing if Lo is above Hi.
func cut(one, other api.Span) api.Span {
	return api.Span{Lo: max(one.Lo, other.Lo), Hi: min(one.Hi, other.Hi)}
}

// within tells whether a flow is a span from 0 to a number.
func within(flow api.Span, most int) bool {
	return flow.Lo <= flow.Hi && cut(flow, api.Span{Lo: 0, Hi: most}) == flow
}

// ends returns the span whose ends functions tell of those of a flow.
func ends(flow api.Span, least, greatest func(int) int) api.Span {
	return api.Span{Lo: least(flow.Lo), Hi: greatest(flow.Hi)}
}

// passed returns what of a flow goes on to the end of a reach.
func passed(in, room, leak int) int { return max(min(in, room)-leak, 0) }

// flowing returns a number as a flow in: one that is too small or too great becomes the least or the greatest.
func flowing(n int) int { return min(max(n, 0), api.MaxFlow) }

// sum adds up a number of each thing of a list.
func sum[T any](list []T, number func(T) int) int {
	all := 0
	for _, thing := range list {
		all += number(thing)
	}
	return all
}

// together returns the greatest number of spans that have a number in common.
func together(spans ...api.Span) int {
	most := 0
	for _, begins := range spans {
		// A number that most have in common may be the lower end of one of them.
		most = max(most, sum(spans, func(s api.Span) int {
			if s.Lo <= begins.Lo && begins.Lo <= s.Hi {
				return 1
			}
			return 0
		}))
	}
	return most
}

func areYears(years []api.Year) bool {
	for _, y := range years {
		if !within(y.Fell, api.MaxRain) || y.Weight < 0 || y.Weight > api.MaxFlow {
			return false
		}
	}
	return len(years) <= api.MaxYears
}

func arePumps(pumps []api.Span) bool {
	for _, p := range pumps {
		if !within(p, api.MaxFlow) {
			return false
		}
	}
	return len(pumps) <= api.MaxPumps
}

// areGauges tells whether gauges are valid for a gallery.
func areGauges(g []api.Reach, gauges []api.Gauge) bool {
	for _, gauge := range gauges {
		if gauge.Shaft < 0 || gauge.Shaft > len(g) || !within(gauge.Flow, mostFlow) {
			return false
		}
	}
	return len(gauges) <= api.MaxGauges
}

// check returns the errors that functions with a gallery, a flow in and gauges have in common.
func check(g []api.Reach, in api.Span, gauges []api.Gauge) api.Errno {
	if e := Check(g); e != api.OK {
		return e
	}
	if !within(in, api.MaxFlow) {
		return api.ErrFlow
	}
	if !areGauges(g, gauges) {
		return api.ErrGauge
	}
	return api.OK
}
