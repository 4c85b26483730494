package gallery

import (
	"iter"
	"slices"
	"sort"

	"aflaj/api"
)

// reach is a reach at work.
type reach struct{ api.Reach }

// least returns what flows out at least, with a flow in.
func (r reach) least(in int) int { return passed(in, r.Cap.Lo, r.Leak.Hi) + r.Gain.Lo }

// greatest returns what flows out at most, with a flow in.
func (r reach) greatest(in int) int { return passed(in, r.Cap.Hi, r.Leak.Lo) + r.Gain.Hi }

// out returns what flows out with the flows of a span in.
func (r reach) out(in api.Span) api.Span { return ends(in, r.least, r.greatest) }

// lost returns what is lost with the flows of a span in: what is gained flows out again, whatever it is.
func (r reach) lost(in api.Span) api.Span {
	return ends(in,
		func(least int) int { return least - passed(least, r.Cap.Hi, r.Leak.Lo) },
		func(greatest int) int { return greatest - passed(greatest, r.Cap.Lo, r.Leak.Hi) })
}

// before returns those flows in of a span with which a flow of another one may flow out. There has to be one.
func (r reach) before(in, out api.Span) api.Span {
	width := in.Hi - in.Lo
	return ends(in,
		func(low int) int {
			return low + sort.Search(width, func(more int) bool { return r.greatest(low+more) >= out.Lo })
		},
		func(high int) int {
			return high - sort.Search(width, func(less int) bool { return r.least(high-less) <= out.Hi })
		})
}

// fallen is the reach after a fall of the roof.
func (r reach) fallen(through api.Span) reach {
	r.Cap = api.Span{Lo: min(r.Cap.Lo, through.Lo), Hi: min(r.Cap.Hi, through.Hi)}
	return r
}

// cleaned is the reach when it lets everything through.
func (r reach) cleaned() reach {
	r.Cap = api.Span{Lo: mostFlow, Hi: mostFlow}
	return r
}

// fitting are the flows past all shafts, if some fit.
type fitting []api.Span

// suspect is a reach in which the roof may have fallen, with the flows that there are then.
type suspect struct {
	reach int
	flows fitting
}

// work is a gallery at work: what flows into it, and what was read at its shafts.
type work struct {
	reaches []reach
	in      api.Span
	gauges  []api.Gauge
}

func begin(g []api.Reach, in api.Span, gauges []api.Gauge) work {
	w := work{in: in, gauges: gauges}
	for _, r := range g {
		w.reaches = append(w.reaches, reach{r})
	}
	return w
}

// shafts yields the shafts from one to another one, down or up.
func (w work) shafts(from, to int) iter.Seq[int] {
	step := 1
	if to < from {
		step = -1
	}
	return func(yield func(int) bool) {
		for shaft := from; yield(shaft) && shaft != to; shaft += step {
		}
	}
}

// read returns those flows of a span past a shaft that its gauges allow: none if Lo is above Hi.
func (w work) read(shaft int, flow api.Span) api.Span {
	for _, gauge := range w.gauges {
		if gauge.Shaft == shaft {
			flow = cut(flow, gauge.Flow)
		}
	}
	return flow
}

// fit goes down to what may flow from above, and up again to what may go on below. It ends by a panic with the flows, or returns if none fit.
func (w work) fit() {
	last, flow := len(w.reaches), w.in
	var flows fitting
	for shaft := range w.shafts(0, last) {
		if shaft > 0 {
			flow = w.reaches[shaft-1].out(flow)
		}
		flow = w.read(shaft, flow)
		if flow.Lo > flow.Hi {
			return
		}
		flows = append(flows, flow)
	}
	for shaft := range w.shafts(last-1, 0) {
		flows[shaft] = w.reaches[shaft].before(flows[shaft], flows[shaft+1])
	}
	panic(flows)
}

// flows returns the flows that fit, and whether there are any.
func (w work) flows() (flows fitting, fit bool) {
	defer func() { flows, fit = recover().(fitting) }()
	w.fit()
	return nil, false
}

// suspects returns the reaches that are suspected, in ascending order.
func (w work) suspects(through api.Span) []suspect {
	var all []suspect
	for i, r := range w.reaches {
		fallen := w
		fallen.reaches = slices.Clone(w.reaches)
		fallen.reaches[i] = r.fallen(through)
		if flows, fit := fallen.flows(); fit {
			all = append(all, suspect{i, flows})
		}
	}
	return all
}

// sure returns what flows past the last shaft at least.
func (w work) sure() int {
	flow := w.in.Lo
	for _, r := range w.reaches {
		flow = r.least(flow)
	}
	return flow
}

// members returns the reaches of a set, in ascending order. The last reach is the bit 1.
func (w work) members(set int) []int {
	var all []int
	for i := range w.reaches {
		if set>>(len(w.reaches)-1-i)&1 == 1 {
			all = append(all, i)
		}
	}
	return all
}

// cleaned is the gallery when the reaches of a set are cleaned.
func (w work) cleaned(set int) work {
	w.reaches = slices.Clone(w.reaches)
	for _, i := range w.members(set) {
		w.reaches[i] = w.reaches[i].cleaned()
	}
	return w
}
