package gallery_test

import (
	"math"
	"slices"
	"testing"

	"aflaj/api"
	"aflaj/gallery"
)

// dice are numbers that look thrown, and are the same in every run.
type dice struct{ state uint64 }

// from returns a number from low to high.
func (d *dice) from(low, high int) int {
	d.state = d.state*6364136223846793005 + 1442695040888963407
	return low + int((d.state>>33)%uint64(high-low+1))
}

// around returns a span with a number, whose ends are at most far from it, and within limits.
func (d *dice) around(n, far, low, high int) api.Span {
	return span(max(low, n-d.from(0, far)), min(high, n+d.from(0, far)))
}

// better returns a part of a span, with a number in it.
func (d *dice) better(s api.Span, n int) api.Span { return span(d.from(s.Lo, n), d.from(n, s.Hi)) }

func inside(n int, s api.Span) bool { return s.Lo <= n && n <= s.Hi }

// narrower tells whether all of one span is in another one.
func narrower(one, other api.Span) bool { return inside(one.Lo, other) && inside(one.Hi, other) }

// flowsOut is what flows out of a reach with numbers of its spans, in the chapter's words.
func flowsOut(in, room, leak, gain int) int {
	left := in
	if room < left {
		left = room
	}
	left -= leak
	if left < 0 {
		left = 0
	}
	return left + gain
}

// numbers goes through all whole numbers of a reach's spans, and of what a fall lets through.
func numbers(r api.Reach, through api.Span, found func(room, leak, gain int)) {
	for room := r.Cap.Lo; room <= r.Cap.Hi; room++ {
		for fall := through.Lo; fall <= through.Hi; fall++ {
			for leak := r.Leak.Lo; leak <= r.Leak.Hi; leak++ {
				for gain := r.Gain.Lo; gain <= r.Gain.Hi; gain++ {
					found(min(room, fall), leak, gain)
				}
			}
		}
	}
}

// anything is what flows through after no fall.
var anything = span(most, most)

// tried goes through all whole flows that fit if the roof fell in a reach: in none if it is -1.
func tried(g []api.Reach, in api.Span, gauges []api.Gauge, fallen int, through api.Span, found func(flows []int)) {
	var on func(flows []int)
	on = func(flows []int) {
		at := len(flows) - 1
		for _, x := range gauges {
			if x.Shaft == at && !inside(flows[at], x.Flow) {
				return
			}
		}
		if at == len(g) {
			found(flows)
			return
		}
		left := anything
		if at == fallen {
			left = through
		}
		next := map[int]bool{}
		numbers(g[at], left, func(room, leak, gain int) { next[flowsOut(flows[at], room, leak, gain)] = true })
		for flow := range next {
			on(append(slices.Clone(flows), flow))
		}
	}
	for flow := in.Lo; flow <= in.Hi; flow++ {
		on([]int{flow})
	}
}

// small throws a gallery of one to three reaches with little water, and gauges.
func small(d *dice) (g []api.Reach, in api.Span, gauges []api.Gauge) {
	for range d.from(1, 3) {
		g = append(g, reach(d.around(d.from(0, 9), 2, 0, 9), d.around(d.from(0, 3), 1, 0, 4), d.around(d.from(0, 2), 1, 0, 3)))
	}
	for range d.from(0, 3) {
		gauges = append(gauges, api.Gauge{Shaft: d.from(0, len(g)), Flow: d.around(d.from(0, 9), 3, 0, 12)})
	}
	return g, d.around(d.from(0, 9), 3, 0, 12), gauges
}

// widest is the span from the least to the greatest of numbers.
type widest struct {
	span api.Span
	some bool
}

func (w *widest) add(n int) {
	if !w.some {
		w.span, w.some = span(n, n), true
	}
	w.span = span(min(w.span.Lo, n), max(w.span.Hi, n))
}

// TestSpansOfAllFlows compares flows, and what is lost, with all whole flows that fit, tried one by one.
func TestSpansOfAllFlows(t *testing.T) {
	d, fitting, torn := &dice{1}, 0, 0
	for range 1500 {
		g, in, gauges := small(d)
		spans := make([]widest, len(g)+1)
		tried(g, in, gauges, -1, anything, func(flows []int) {
			for i, flow := range flows {
				spans[i].add(flow)
			}
		})
		if !spans[0].some {
			torn++
			wantNoFlows(t, g, in, gauges, api.ErrTorn)
			continue
		}
		fitting++
		var want, wantLost []api.Span
		for i, s := range spans {
			want = append(want, s.span)
			if i == len(g) {
				break
			}
			var lost widest
			for flow := s.span.Lo; flow <= s.span.Hi; flow++ {
				numbers(g[i], anything, func(room, leak, gain int) { lost.add(flow + gain - flowsOut(flow, room, leak, gain)) })
			}
			wantLost = append(wantLost, lost.span)
		}
		wantFlows(t, g, in, gauges, want, wantLost)
	}
	if fitting < 200 || torn < 200 {
		t.Error("too few galleries of a kind:", fitting, torn)
	}
}

// TestAllFalls compares what is suspected, and where to measure, with all whole flows that fit with a fall.
func TestAllFalls(t *testing.T) {
	d, some, none, tells := &dice{2}, 0, 0, 0
	for range 1200 {
		g, in, gauges := small(d)
		through := d.around(d.from(0, 6), 2, 0, 8)
		whole := false
		tried(g, in, gauges, -1, anything, func([]int) { whole = true })
		var suspected []int
		may := make([]map[int]int, len(g)+1) // by shaft: with how many falls a number may flow there
		for shaft := range may {
			may[shaft] = map[int]int{}
		}
		for fallen := range g {
			seen := map[[2]int]bool{}
			tried(g, in, gauges, fallen, through, func(flows []int) {
				for shaft, flow := range flows {
					if !seen[[2]int{shaft, flow}] {
						seen[[2]int{shaft, flow}] = true
						may[shaft][flow]++
					}
				}
			})
			if len(seen) > 0 {
				suspected = append(suspected, fallen)
			}
		}
		if len(suspected) == 0 {
			none++
			wantFalls(t, g, in, gauges, through, false, api.ErrNone)
			wantNext(t, g, in, gauges, through, api.ErrNone, 0, 0)
			continue
		}
		some++
		wantFalls(t, g, in, gauges, through, whole, api.OK, suspected...)
		at, left := 0, len(suspected)
		for shaft, falls := range may {
			greatest := 0
			for _, n := range falls {
				greatest = max(greatest, n)
			}
			if greatest < left {
				at, left = shaft, greatest
			}
		}
		if left < len(suspected) {
			tells++
		}
		wantNext(t, g, in, gauges, through, api.OK, at, left)
	}
	if some < 200 || none < 200 || tells < 30 {
		t.Error("too few galleries of a kind:", some, none, tells)
	}
}

// sure is what flows past the last shaft at least, if some reaches are cleaned.
func sure(g []api.Reach, in api.Span, cleaned []int) int {
	flow := in.Lo
	for i, r := range g {
		room := r.Cap.Lo
		if slices.Contains(cleaned, i) {
			room = most
		}
		flow = flowsOut(flow, room, r.Leak.Hi, r.Gain.Lo)
	}
	return flow
}

// lists returns all lists of reaches in ascending order, fewer ones first, then by their numbers.
func lists(reaches int) [][]int {
	all := [][]int{nil}
	for i := 0; i < len(all); i++ {
		first := 0
		if n := len(all[i]); n > 0 {
			first = all[i][n-1] + 1
		}
		for next := first; next < reaches; next++ {
			all = append(all, append(slices.Clone(all[i]), next))
		}
	}
	return all
}

// TestFewestCleaned compares what is cleaned with all lists of reaches, in their order.
func TestFewestCleaned(t *testing.T) {
	d, found, none := &dice{3}, [13]int{}, 0
	for range 600 {
		size := [...]int{3, 4, 6, 8, 12}[d.from(0, 4)]
		var g []api.Reach
		for range size {
			g = append(g, reach(d.around(d.from(0, 99), 20, 0, 99), d.around(d.from(0, 9), 5, 0, 20), d.around(d.from(0, 30), 20, 0, 50)))
		}
		in := d.around(d.from(0, 80), 20, 0, 99)
		want := d.from(0, sure(g, in, lists(size)[1<<size-1])+1)
		var first []int
		enough := false
		for _, list := range lists(size) {
			if sure(g, in, list) >= want {
				first, enough = list, true
				break
			}
		}
		if !enough {
			none++
			wantClean(t, g, in, want, api.ErrNone)
			continue
		}
		found[len(first)]++
		wantClean(t, g, in, want, api.OK, first...)
	}
	if none < 10 || found[0] < 10 || found[1] < 10 || found[2] < 10 || found[4] < 5 {
		t.Error("too few of a kind:", none, found)
	}
}

// truth is a gallery in which everything is known.
type truth struct {
	g                 []api.Reach
	in                api.Span
	gauges            []api.Gauge
	through           api.Span
	rooms, leaks      []int
	gains, flows      []int
	flowIn            int
	fallen, letsPass  int
	years             []api.Year
	pumps             []api.Span
	rains, pumped     []int
	thousandths, pump int
}

// thrown throws a truth, in which the roof fell or did not, and true readings of it.
func thrown(d *dice, falls bool) truth {
	var x truth
	great := [...]int{20, 3000, api.MaxFlow}[d.from(0, 2)]
	x.flowIn = d.from(0, great)
	x.in = d.around(x.flowIn, great/4, 0, api.MaxFlow)
	x.letsPass = d.from(0, great/2)
	x.through = d.around(x.letsPass, great/8, 0, api.MaxFlow)
	x.flows = []int{x.flowIn}
	size := d.from(1, api.MaxReaches)
	x.fallen = -1
	if falls {
		x.fallen = d.from(0, size-1)
	}
	for i := range size {
		room, leak, gain := d.from(great/4, great), d.from(0, great/8), d.from(0, great/8)
		if d.from(0, 2) == 0 {
			leak = 0
		}
		x.g = append(x.g, reach(d.around(room, great/8, 0, api.MaxFlow), d.around(leak, great/30, 0, api.MaxFlow), d.around(gain, great/30, 0, api.MaxFlow)))
		if i == x.fallen {
			room = min(room, x.letsPass)
		}
		x.rooms, x.leaks, x.gains = append(x.rooms, room), append(x.leaks, leak), append(x.gains, gain)
		x.flows = append(x.flows, flowsOut(x.flows[i], room, leak, gain))
	}
	for range d.from(0, 12) {
		shaft := d.from(0, size)
		x.gauges = append(x.gauges, api.Gauge{Shaft: shaft, Flow: d.around(x.flows[shaft], great/8, 0, most)})
	}
	for range d.from(0, api.MaxYears) {
		fell, weight := d.from(0, 300), d.from(0, great)
		x.years = append(x.years, api.Year{Fell: d.around(fell, 30, 0, api.MaxRain), Weight: weight})
		x.thousandths += fell * weight
		x.rains = append(x.rains, fell)
	}
	for range d.from(0, api.MaxPumps) {
		n := d.from(0, great/16)
		x.pumps = append(x.pumps, d.around(n, great/30, 0, api.MaxFlow))
		x.pump += n
		x.pumped = append(x.pumped, n)
	}
	return x
}

// TestTruthIsTold checks that what is true lies in what is told of true readings.
func TestTruthIsTold(t *testing.T) {
	d := &dice{4}
	for range 400 {
		x := thrown(d, false)
		flows, lost, e := gallery.Flows(x.g, x.in, x.gauges)
		if e != api.OK || len(flows) != len(x.flows) || len(lost) != len(x.g) {
			t.Fatal(x, flows, lost, e)
		}
		for i, flow := range x.flows {
			if !inside(flow, flows[i]) {
				t.Error(x, i, flow, flows[i])
			}
			if i == len(x.g) {
				break
			}
			// What comes in, and is gained, is what flows out, and is lost.
			if off := flow + x.gains[i] - x.flows[i+1]; !inside(off, lost[i]) {
				t.Error(x, i, off, lost[i])
			}
		}
		source, e := gallery.Source(x.years, x.pumps)
		low, high := (x.thousandths/1000)-x.pump, (x.thousandths+999)/1000-x.pump
		limit := func(n int) int { return min(max(n, 0), api.MaxFlow) }
		if e != api.OK || source.Lo > limit(low) || source.Hi < limit(high) {
			t.Error(x, source, e)
		}
	}
}

// theyFit tells, from the chapter's words alone, whether flows fit: a reach lets out all flows between the least and the greatest one.
func theyFit(g []api.Reach, in api.Span, gauges []api.Gauge, flows []int) bool {
	for i, r := range g {
		least := flowsOut(flows[i], r.Cap.Lo, r.Leak.Hi, r.Gain.Lo)
		greatest := flowsOut(flows[i], r.Cap.Hi, r.Leak.Lo, r.Gain.Hi)
		if !inside(flows[i+1], span(least, greatest)) {
			return false
		}
	}
	for _, x := range gauges {
		if !inside(flows[x.Shaft], x.Flow) {
			return false
		}
	}
	return inside(flows[0], in)
}

// TestEndsAreReached checks that flows that fit reach each end, and that none go beyond.
func TestEndsAreReached(t *testing.T) {
	d := &dice{5}
	for range 150 {
		x := thrown(d, false)
		told, _, _ := gallery.Flows(x.g, x.in, x.gauges)
		for shaft, flow := range told {
			for _, end := range []int{flow.Lo, flow.Hi} {
				exact := append(slices.Clone(x.gauges), gauge(shaft, end, end))
				var flows []int
				for next := range told {
					left, _, e := gallery.Flows(x.g, x.in, exact)
					if e != api.OK {
						t.Fatal(x, shaft, end, e)
					}
					flows = append(flows, left[next].Lo)
					exact = append(exact, gauge(next, left[next].Lo, left[next].Lo))
				}
				if flows[shaft] != end || !theyFit(x.g, x.in, x.gauges, flows) {
					t.Error(x, shaft, end, flows)
				}
			}
			if flow.Lo > 0 {
				wantNoFlows(t, x.g, x.in, append(slices.Clone(x.gauges), gauge(shaft, 0, flow.Lo-1)), api.ErrTorn)
			}
			if flow.Hi < most {
				wantNoFlows(t, x.g, x.in, append(slices.Clone(x.gauges), gauge(shaft, flow.Hi+1, most)), api.ErrTorn)
			}
		}
	}
}

// after is a gallery after a fall in a reach.
func after(g []api.Reach, fallen int, through api.Span) []api.Reach {
	g = slices.Clone(g)
	g[fallen].Cap = span(min(g[fallen].Cap.Lo, through.Lo), min(g[fallen].Cap.Hi, through.Hi))
	return g
}

// TestFallIsLocated checks that the reach in which the roof fell is suspected, and just those that may be it.
func TestFallIsLocated(t *testing.T) {
	d, alone := &dice{6}, 0
	for range 400 {
		x := thrown(d, true)
		reaches, whole, e := gallery.Falls(x.g, x.in, x.gauges, x.through)
		if e != api.OK || !slices.Contains(reaches, x.fallen) {
			t.Error(x, reaches, e)
		}
		for i := range x.g {
			if _, _, e := gallery.Flows(after(x.g, i, x.through), x.in, x.gauges); (e == api.OK) != slices.Contains(reaches, i) {
				t.Error(x, i, reaches)
			}
		}
		if _, _, e := gallery.Flows(x.g, x.in, x.gauges); whole != (e == api.OK) {
			t.Error(x, whole)
		}
		if len(x.g) > 1 && len(reaches) == 1 {
			alone++
		}
	}
	if alone < 20 {
		t.Error("too few that are located:", alone)
	}
}

// TestNoMoreAreLeft checks that, wherever the roof fell, no more are left at the next shaft than is told, and that as many may be left elsewhere.
func TestNoMoreAreLeft(t *testing.T) {
	d, fewer := &dice{7}, 0
	for range 200 {
		x := thrown(d, true)
		reaches, _, _ := gallery.Falls(x.g, x.in, x.gauges, x.through)
		shaft, left, e := gallery.Next(x.g, x.in, x.gauges, x.through)
		if e != api.OK || left < 1 || left > len(reaches) {
			t.Fatal(x, shaft, left, e)
		}
		if left < len(reaches) {
			fewer++
		}
		for at := range len(x.g) + 1 {
			greatest := 0
			for _, fallen := range reaches {
				flows, _, _ := gallery.Flows(after(x.g, fallen, x.through), x.in, x.gauges)
				for _, flow := range []int{flows[at].Lo, flows[at].Hi, x.flows[at]} {
					rest, _, e := gallery.Falls(x.g, x.in, append(slices.Clone(x.gauges), gauge(at, flow, flow)), x.through)
					if e != api.OK {
						t.Fatal(x, at, flow, e)
					}
					greatest = max(greatest, len(rest))
				}
			}
			if at == shaft && greatest != left || at < shaft && greatest <= left || greatest < left {
				t.Error(x, shaft, left, at, greatest)
			}
		}
	}
	if fewer < 20 {
		t.Error("too few where a measure tells:", fewer)
	}
}

// known returns a truth that is known better in everything.
func known(d *dice, x truth) truth {
	x.g, x.gauges = slices.Clone(x.g), slices.Clone(x.gauges)
	for i := range x.g {
		r := &x.g[i]
		// What it was before a fall is not known: any number of Cap that is no less than what flowed through.
		room := max(x.rooms[i], r.Cap.Lo)
		r.Cap, r.Leak, r.Gain = d.better(r.Cap, room), d.better(r.Leak, x.leaks[i]), d.better(r.Gain, x.gains[i])
	}
	for i := range x.gauges {
		x.gauges[i].Flow = d.better(x.gauges[i].Flow, x.flows[x.gauges[i].Shaft])
	}
	if d.from(0, 1) == 0 {
		shaft := d.from(0, len(x.g))
		x.gauges = append(x.gauges, api.Gauge{Shaft: shaft, Flow: d.around(x.flows[shaft], 9, 0, most)})
	}
	x.in, x.through = d.better(x.in, x.flowIn), d.better(x.through, x.letsPass)
	return x
}

// TestMoreIsNotWider checks that nothing is told wider with more gauges, or with better ones.
func TestMoreIsNotWider(t *testing.T) {
	d, gone := &dice{8}, 0
	for round := range 400 {
		x := thrown(d, round%2 == 0)
		y := known(d, x)
		if x.fallen < 0 {
			was, lostWas, _ := gallery.Flows(x.g, x.in, x.gauges)
			is, lostIs, e := gallery.Flows(y.g, y.in, y.gauges)
			if e != api.OK || !slices.EqualFunc(is, was, narrower) || !slices.EqualFunc(lostIs, lostWas, narrower) {
				t.Error(x, y, was, is, e)
			}
			continue
		}
		was, _, _ := gallery.Falls(x.g, x.in, x.gauges, x.through)
		is, _, e := gallery.Falls(y.g, y.in, y.gauges, y.through)
		if e != api.OK || !slices.Contains(is, x.fallen) {
			t.Error(x, y, is, e)
		}
		for _, one := range is {
			if !slices.Contains(was, one) {
				t.Error(x, y, was, is)
			}
		}
		gone += len(was) - len(is)
	}
	if gone < 20 {
		t.Error("too few that are suspected no more:", gone)
	}
}

// TestMoreRain checks that more rain gives no less, a pump more no more, and that what is known better is told no wider.
func TestMoreRain(t *testing.T) {
	d := &dice{9}
	for range 600 {
		x := thrown(d, false)
		was, e := gallery.Source(x.years, x.pumps)
		if e != api.OK || was.Lo > was.Hi {
			t.Fatal(x, was, e)
		}
		if len(x.pumps) < api.MaxPumps {
			is, e := gallery.Source(x.years, append(slices.Clone(x.pumps), d.around(d.from(0, 99), 40, 0, 999)))
			if e != api.OK || is.Lo > was.Lo || is.Hi > was.Hi {
				t.Error(x, was, is, e)
			}
		}
		if len(x.years) == 0 {
			continue
		}
		better := slices.Clone(x.years)
		for i, fell := range x.rains {
			better[i].Fell = d.better(better[i].Fell, fell)
		}
		pumps := slices.Clone(x.pumps)
		for i, n := range x.pumped {
			pumps[i] = d.better(pumps[i], n)
		}
		if is, e := gallery.Source(better, pumps); e != api.OK || !narrower(is, was) {
			t.Error(x, was, is, e)
		}
		more := slices.Clone(x.years)
		fell := &more[d.from(0, len(more)-1)].Fell
		*fell = span(fell.Lo+d.from(0, 50), fell.Hi+50+d.from(0, 50))
		if is, e := gallery.Source(more, x.pumps); e != api.OK || is.Lo < was.Lo || is.Hi < was.Hi {
			t.Error(x, was, is, e)
		}
	}
}

// spare returns a list with more room than it needs, full of something else.
func spare[T any](list []T, other T) []T {
	long := append(slices.Clone(list), other, other, other)
	return long[:len(list)]
}

// kept tells whether a list is still what it was, with the room behind it.
func kept[T comparable](list, was []T, other T) bool {
	return slices.Equal(list[:len(was)+3], append(slices.Clone(was), other, other, other))
}

// callAll calls all functions with a gallery, and returns what they tell: first the errors.
func callAll(g []api.Reach, in api.Span, gauges []api.Gauge, through api.Span, want int) (errors []api.Errno, all []any) {
	flows, lost, e1 := gallery.Flows(g, in, gauges)
	reaches, whole, e2 := gallery.Falls(g, in, gauges, through)
	shaft, left, e3 := gallery.Next(g, in, gauges, through)
	clean, e4 := gallery.Clean(g, in, want)
	return []api.Errno{gallery.Check(g), e1, e2, e3, e4}, []any{flows, lost, reaches, whole, shaft, left, clean}
}

// TestArgumentsStay checks that nothing is written to arguments, nor to the room behind them, and that results are new.
func TestArgumentsStay(t *testing.T) {
	otherReach, otherGauge := reach(span(71, 72), span(73, 74), span(75, 76)), gauge(77, 78, 79)
	otherYear, otherPump := year(81, 82, 83), span(84, 85)
	for _, was := range [][]api.Gauge{nil, {gauge(3, 300, 310)}, {gauge(3, 510, 520), gauge(0, 500, 600)}, {gauge(0, 0, 0)}} {
		g, gauges := spare(tight(), otherReach), spare(was, otherGauge)
		years, pumps := spare([]api.Year{year(1, 2, 3000)}, otherYear), spare([]api.Span{span(1, 1)}, otherPump)
		callAll(g, exampleIn, gauges, span(100, 300), 481)
		wantSource(t, years, pumps, api.OK, span(2, 5))
		if !kept(g, tight(), otherReach) || !kept(gauges, was, otherGauge) || !kept(years, []api.Year{year(1, 2, 3000)}, otherYear) || !kept(pumps, []api.Span{span(1, 1)}, otherPump) {
			t.Error(g, gauges, years, pumps)
		}
	}
	flows, lost, _ := gallery.Flows(example(), exampleIn, nil)
	was := slices.Clone(lost)
	_ = append(flows, span(1, 1), span(2, 2), span(3, 3))
	for i := range flows {
		flows[i] = span(7, 7)
	}
	if !slices.Equal(lost, was) {
		t.Error(lost)
	}
	clear(lost)
	reaches, _, _ := gallery.Falls(example(), exampleIn, nil, span(0, 0))
	clear(reaches)
	clean, _ := gallery.Clean(tight(), exampleIn, 481)
	clear(clean)
	TestExamples(t)
}

// TestAnyValue calls all functions with numbers from everywhere: each call ends, and all agree on what is valid.
func TestAnyValue(t *testing.T) {
	d, valid := &dice{10}, 0
	throw := func() int {
		strange := [...]int{math.MinInt, math.MinInt + 1, -1, 0, 1, 999999, 1000000, 1000001, most - 1, most, most + 1, math.MaxInt - 1, math.MaxInt}
		if d.from(0, 40) == 0 {
			return strange[d.from(0, len(strange)-1)]
		}
		return d.from(0, 3)
	}
	pair := func() api.Span {
		s := span(throw(), throw())
		if d.from(0, 9) > 0 {
			s = span(min(s.Lo, s.Hi), max(s.Lo, s.Hi))
		}
		return s
	}
	for range 4000 {
		var g []api.Reach
		for range d.from(0, 3) {
			g = append(g, reach(pair(), pair(), pair()))
		}
		var gauges []api.Gauge
		for range d.from(0, 2) {
			gauges = append(gauges, api.Gauge{Shaft: throw(), Flow: pair()})
		}
		errors, all := callAll(g, pair(), gauges, pair(), throw())
		if errors[0] == api.OK {
			valid++
		}
		for i, e := range errors {
			if (errors[0] == api.ErrGallery) != (e == api.ErrGallery) {
				t.Error(g, i, errors, all)
			}
		}
		source, e := gallery.Source([]api.Year{{Fell: pair(), Weight: throw()}}, []api.Span{pair()})
		if e != api.OK && (e != api.ErrYears || source != api.Span{}) || !narrower(source, span(0, 1000000)) || source.Lo > source.Hi {
			t.Error(source, e)
		}
	}
	if valid < 400 {
		t.Error("too few valid galleries:", valid)
	}
}
