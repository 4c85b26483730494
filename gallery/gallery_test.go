package gallery_test

import (
	"math"
	"slices"
	"testing"

	"aflaj/api"
	"aflaj/gallery"
)

func span(lo, hi int) api.Span { return api.Span{Lo: lo, Hi: hi} }

func reach(room, leak, gain api.Span) api.Reach { return api.Reach{Cap: room, Leak: leak, Gain: gain} }

func gauge(shaft, lo, hi int) api.Gauge { return api.Gauge{Shaft: shaft, Flow: span(lo, hi)} }

func year(lo, hi, weight int) api.Year { return api.Year{Fell: span(lo, hi), Weight: weight} }

// most is what flows past the last of the most shafts, if the most flows in and is gained.
const most = 13000000

// example is the gallery of the chapter's examples.
func example() []api.Reach {
	return []api.Reach{
		reach(span(1000, 1000), span(10, 20), span(0, 0)),
		reach(span(1000, 1000), span(0, 0), span(50, 60)),
		reach(span(1000, 1000), span(30, 30), span(0, 0)),
	}
}

// exampleIn is what flows into it.
var exampleIn = span(500, 600)

// tight is that gallery with less room in its first and its last reach.
func tight() []api.Reach {
	g := example()
	g[0].Cap, g[2].Cap = span(450, 450), span(500, 500)
	return g
}

// wide is a gallery of some reaches that let everything through.
func wide(reaches int) []api.Reach {
	return slices.Repeat([]api.Reach{reach(span(1000000, 1000000), api.Span{}, api.Span{})}, reaches)
}

func wantSource(t *testing.T, years []api.Year, pumps []api.Span, e api.Errno, want api.Span) {
	t.Helper()
	if got, f := gallery.Source(years, pumps); got != want || f != e {
		t.Errorf("Source %v %v: %v %v, want %v %v", years, pumps, got, f, want, e)
	}
}

func wantFlows(t *testing.T, g []api.Reach, in api.Span, gauges []api.Gauge, want, wantLost []api.Span) {
	t.Helper()
	flows, lost, e := gallery.Flows(g, in, gauges)
	if !slices.Equal(flows, want) || !slices.Equal(lost, wantLost) || e != api.OK {
		t.Errorf("Flows %v %v %v: %v %v %v, want %v %v", g, in, gauges, flows, lost, e, want, wantLost)
	}
}

func wantNoFlows(t *testing.T, g []api.Reach, in api.Span, gauges []api.Gauge, want api.Errno) {
	t.Helper()
	if flows, lost, e := gallery.Flows(g, in, gauges); len(flows)+len(lost) != 0 || e != want {
		t.Errorf("Flows %v %v %v: %v %v %v, want %v", g, in, gauges, flows, lost, e, want)
	}
}

func wantFalls(t *testing.T, g []api.Reach, in api.Span, gauges []api.Gauge, through api.Span, whole bool, e api.Errno, want ...int) {
	t.Helper()
	if got, w, f := gallery.Falls(g, in, gauges, through); !slices.Equal(got, want) || w != whole || f != e {
		t.Errorf("Falls %v %v %v %v: %v %v %v, want %v %v %v", g, in, gauges, through, got, w, f, want, whole, e)
	}
}

func wantNext(t *testing.T, g []api.Reach, in api.Span, gauges []api.Gauge, through api.Span, e api.Errno, shaft, left int) {
	t.Helper()
	if s, l, f := gallery.Next(g, in, gauges, through); s != shaft || l != left || f != e {
		t.Errorf("Next %v %v %v %v: %v %v %v, want %v %v %v", g, in, gauges, through, s, l, f, shaft, left, e)
	}
}

func wantClean(t *testing.T, g []api.Reach, in api.Span, want int, e api.Errno, reaches ...int) {
	t.Helper()
	if got, f := gallery.Clean(g, in, want); !slices.Equal(got, reaches) || f != e {
		t.Errorf("Clean %v %v %v: %v %v, want %v %v", g, in, want, got, f, reaches, e)
	}
}

// wantAll checks that each function with a gallery and gauges returns an error, and nothing beside it.
func wantAll(t *testing.T, g []api.Reach, in api.Span, gauges []api.Gauge, through api.Span, e api.Errno) {
	t.Helper()
	wantNoFlows(t, g, in, gauges, e)
	wantFalls(t, g, in, gauges, through, false, e)
	wantNext(t, g, in, gauges, through, e, 0, 0)
}

func TestExamples(t *testing.T) {
	g, lost := example(), []api.Span{span(10, 20), {}, span(30, 30)}
	if e := gallery.Check(g); e != api.OK {
		t.Error(e)
	}
	wantSource(t, []api.Year{year(100, 120, 2000), year(200, 200, 505)}, []api.Span{span(10, 11)}, api.OK, span(290, 331))
	wantFlows(t, g, exampleIn, nil, []api.Span{span(500, 600), span(480, 590), span(530, 650), span(500, 620)}, lost)
	wantFlows(t, g, exampleIn, []api.Gauge{gauge(3, 510, 520)}, []api.Span{span(500, 520), span(480, 500), span(540, 550), span(510, 520)}, lost)
	low := []api.Gauge{gauge(3, 300, 310)}
	wantNoFlows(t, g, exampleIn, low, api.ErrTorn)
	wantFalls(t, g, exampleIn, low, span(100, 300), false, api.OK, 0, 1)
	wantFalls(t, g, exampleIn, append(low, gauge(1, 480, 590)), span(100, 300), false, api.OK, 1)
	wantNext(t, g, exampleIn, low, span(100, 300), api.OK, 1, 1)
	wantClean(t, tight(), exampleIn, 481, api.OK, 0, 2)
}

// wrongFlows are no spans from 0 to a number.
func wrongFlows(most int) []api.Span {
	return []api.Span{
		span(1, 0), span(-1, 0), span(-1, -1), span(0, most+1), span(most+1, most+1), span(most, most-1),
		span(math.MinInt, 0), span(0, math.MaxInt), span(math.MinInt, math.MaxInt), span(math.MaxInt, math.MinInt),
		span(math.MinInt, math.MinInt), span(math.MaxInt, math.MaxInt),
	}
}

func TestInvalidGalleries(t *testing.T) {
	wrong := [][]api.Reach{nil, {}, wide(13), wide(1000)}
	for _, x := range wrongFlows(1000000) {
		for at := range 3 {
			g := [3][]api.Reach{example(), example(), example()}
			g[0][at].Cap, g[1][at].Leak, g[2][at].Gain = x, x, x
			wrong = append(wrong, g[:]...)
		}
	}
	bad := span(1, 0)
	for _, g := range wrong {
		if e := gallery.Check(g); e != api.ErrGallery {
			t.Errorf("Check %v: %v", g, e)
		}
		wantAll(t, g, exampleIn, nil, span(0, 0), api.ErrGallery)
		wantAll(t, g, bad, []api.Gauge{gauge(-1, 0, 0)}, bad, api.ErrGallery)
		wantClean(t, g, exampleIn, 0, api.ErrGallery)
		wantClean(t, g, bad, -1, api.ErrGallery)
	}
}

func TestInvalidFlowsIn(t *testing.T) {
	for _, in := range wrongFlows(1000000) {
		wantAll(t, example(), in, nil, span(0, 0), api.ErrFlow)
		wantAll(t, example(), in, []api.Gauge{gauge(-1, 0, 0)}, span(1, 0), api.ErrFlow)
		wantClean(t, example(), in, 0, api.ErrFlow)
		wantClean(t, example(), in, -1, api.ErrFlow)
	}
}

func TestInvalidGauges(t *testing.T) {
	wrong := [][]api.Gauge{slices.Repeat([]api.Gauge{gauge(0, 0, most)}, 31)}
	for _, shaft := range []int{-1, 4, math.MinInt, math.MaxInt} {
		wrong = append(wrong, []api.Gauge{gauge(shaft, 0, most)})
	}
	for _, flow := range wrongFlows(most) {
		wrong = append(wrong, []api.Gauge{gauge(0, 0, most), {Shaft: 3, Flow: flow}})
	}
	for _, gauges := range wrong {
		wantAll(t, example(), exampleIn, gauges, span(0, 0), api.ErrGauge)
		wantAll(t, example(), exampleIn, gauges, span(1, 0), api.ErrGauge)
	}
}

func TestInvalidFalls(t *testing.T) {
	for _, through := range wrongFlows(1000000) {
		// Also where no reach would be suspected, and where flows fit without a fall.
		for _, gauges := range [][]api.Gauge{nil, {gauge(3, 300, 310)}, {gauge(0, 0, 0)}} {
			wantFalls(t, example(), exampleIn, gauges, through, false, api.ErrArg)
			wantNext(t, example(), exampleIn, gauges, through, api.ErrArg, 0, 0)
		}
	}
}

func TestLimits(t *testing.T) {
	full := slices.Repeat([]api.Reach{reach(span(0, 1000000), span(0, 1000000), span(0, 1000000))}, 12)
	var flows, lost []api.Span
	for shaft := range 13 {
		flows = append(flows, span(0, 2000000))
		if shaft < 12 {
			lost = append(lost, span(0, 2000000))
		}
	}
	flows[0], lost[0] = span(0, 1000000), span(0, 1000000)
	wantFlows(t, full, span(0, 1000000), nil, flows, lost)
	wantFlows(t, full, span(0, 1000000), slices.Repeat([]api.Gauge{gauge(12, 0, most)}, 30), flows, lost)
	wantFalls(t, full, span(0, 1000000), []api.Gauge{gauge(0, most, most)}, span(0, 1000000), false, api.ErrNone)
	wantFalls(t, full, span(0, 1000000), nil, span(0, 1000000), true, api.OK, 0, 1, 2, 3, 4, 5, 6, 7, 8, 9, 10, 11)
	wantNext(t, full, span(0, 1000000), nil, span(1000000, 1000000), api.OK, 0, 12)
	wantClean(t, full, span(1000000, 1000000), 0, api.OK)
	wantClean(t, full, span(1000000, 1000000), 1, api.ErrNone)
	// What is cleaned lets through all that there can be: it adds up from reach to reach.
	gains := slices.Repeat([]api.Reach{reach(span(0, 0), span(0, 0), span(1000000, 1000000))}, 12)
	wantClean(t, gains, span(1000000, 1000000), most, api.OK, 0, 1, 2, 3, 4, 5, 6, 7, 8, 9, 10, 11)
	wantClean(t, gains, span(1000000, 1000000), most-1000000, api.OK, 1, 2, 3, 4, 5, 6, 7, 8, 9, 10, 11)
	wantClean(t, gains, span(1000000, 1000000), 1000000, api.OK)
	wantClean(t, gains, span(999999, 1000000), most, api.ErrNone)
	wantFlows(t, wide(1), span(0, 0), nil, []api.Span{{}, {}}, []api.Span{{}})
}

func TestSource(t *testing.T) {
	for _, x := range []struct {
		years []api.Year
		pumps []api.Span
		want  api.Span
	}{
		{nil, nil, span(0, 0)},
		{[]api.Year{}, []api.Span{}, span(0, 0)},
		{nil, []api.Span{span(0, 1000000)}, span(0, 0)},
		{[]api.Year{year(1, 1, 1)}, nil, span(0, 1)},
		{[]api.Year{year(1, 1, 999)}, nil, span(0, 1)},
		{[]api.Year{year(1, 1, 1000)}, nil, span(1, 1)},
		{[]api.Year{year(1, 1, 1001)}, nil, span(1, 2)},
		{[]api.Year{year(10, 20, 0)}, nil, span(0, 0)},
		{[]api.Year{year(0, 0, 1000000)}, nil, span(0, 0)},
		// All years are added up before they are rounded.
		{[]api.Year{year(1, 1, 500), year(1, 1, 500)}, nil, span(1, 1)},
		{[]api.Year{year(1, 1, 400), year(1, 1, 500)}, nil, span(0, 1)},
		{[]api.Year{year(1, 1, 700), year(1, 1, 600)}, nil, span(1, 2)},
		{[]api.Year{year(5, 9, 1000)}, []api.Span{span(1, 2), span(3, 3)}, span(0, 5)},
		{[]api.Year{year(5, 9, 1000)}, []api.Span{span(5, 9)}, span(0, 4)},
		{[]api.Year{year(5, 9, 1000)}, []api.Span{span(6, 9)}, span(0, 3)},
		{[]api.Year{year(5, 9, 1000)}, []api.Span{span(9, 9)}, span(0, 0)},
		{[]api.Year{year(5, 9, 1500)}, []api.Span{span(7, 7)}, span(0, 7)},
		{[]api.Year{year(5, 9, 1500)}, []api.Span{span(2, 2)}, span(5, 12)},
		{[]api.Year{year(1000, 1001, 1000000)}, nil, span(1000000, 1000000)},
		{[]api.Year{year(999, 1001, 1000000)}, nil, span(999000, 1000000)},
		// Only the sum is at most what flows in, not the rain.
		{[]api.Year{year(1000, 2000, 1000000)}, []api.Span{span(500000, 700000)}, span(300000, 1000000)},
		{slices.Repeat([]api.Year{year(0, 10000, 1000000)}, 12), slices.Repeat([]api.Span{span(0, 1000000)}, 12), span(0, 1000000)},
		{slices.Repeat([]api.Year{year(10000, 10000, 1000000)}, 12), slices.Repeat([]api.Span{span(1000000, 1000000)}, 12), span(1000000, 1000000)},
		{slices.Repeat([]api.Year{year(10000, 10000, 101)}, 12), slices.Repeat([]api.Span{span(1000, 1010)}, 12), span(0, 120)},
	} {
		wantSource(t, x.years, x.pumps, api.OK, x.want)
	}
}

func TestInvalidYears(t *testing.T) {
	good := year(1, 2, 3)
	for _, fell := range wrongFlows(10000) {
		wantSource(t, []api.Year{good, {Fell: fell, Weight: 1}}, nil, api.ErrYears, api.Span{})
	}
	for _, weight := range []int{-1, 1000001, math.MinInt, math.MaxInt} {
		wantSource(t, []api.Year{{Weight: weight}, good}, nil, api.ErrYears, api.Span{})
	}
	for _, pump := range wrongFlows(1000000) {
		wantSource(t, []api.Year{good}, []api.Span{span(1, 2), pump}, api.ErrYears, api.Span{})
	}
	wantSource(t, slices.Repeat([]api.Year{good}, 13), nil, api.ErrYears, api.Span{})
	wantSource(t, nil, make([]api.Span, 13), api.ErrYears, api.Span{})
}

func TestFlowsOfOneReach(t *testing.T) {
	for _, x := range []struct {
		r              api.Reach
		in             api.Span
		flow, out, off api.Span
		gauges         []api.Gauge
	}{
		// More than it lets through finds another way; what leaks is none of that.
		{reach(span(40, 50), span(1, 2), span(0, 0)), span(100, 110), span(100, 110), span(38, 49), span(51, 72), nil},
		{reach(span(40, 50), span(1, 2), span(3, 5)), span(30, 45), span(30, 45), span(31, 49), span(1, 7), nil},
		// It does not leak more than there is, and what is gained flows out whatever leaks.
		{reach(span(50, 50), span(10, 20), span(0, 0)), span(5, 15), span(5, 15), span(0, 5), span(5, 15), nil},
		{reach(span(50, 50), span(10, 20), span(7, 8)), span(5, 15), span(5, 15), span(7, 13), span(5, 15), nil},
		{reach(span(0, 0), span(0, 0), span(7, 8)), span(5, 15), span(5, 15), span(7, 8), span(5, 15), nil},
		// Gauges above and below.
		{reach(span(50, 50), span(1, 2), span(0, 3)), span(5, 15), span(7, 9), span(5, 11), span(1, 2), []api.Gauge{gauge(0, 7, 9)}},
		{reach(span(50, 50), span(1, 2), span(0, 3)), span(5, 15), span(5, 8), span(3, 6), span(1, 2), []api.Gauge{gauge(1, 0, 6)}},
		{reach(span(50, 50), span(1, 2), span(0, 3)), span(5, 15), span(8, 15), span(10, 17), span(1, 2), []api.Gauge{gauge(1, 10, 100)}},
		{reach(span(50, 50), span(1, 2), span(0, 3)), span(5, 15), span(10, 12), span(11, 12), span(1, 2), []api.Gauge{gauge(1, 9, 12), gauge(0, 10, 12), gauge(1, 11, 99)}},
		// What flows out tells nothing of a flow that finds another way.
		{reach(span(20, 30), span(1, 2), span(0, 0)), span(10, 100), span(19, 100), span(18, 20), span(1, 82), []api.Gauge{gauge(1, 0, 20), gauge(1, 18, 40)}},
		{reach(span(20, 30), span(1, 2), span(0, 0)), span(10, 100), span(20, 100), span(19, 29), span(1, 82), []api.Gauge{gauge(1, 19, 40)}},
		{reach(span(20, 30), span(1, 2), span(0, 0)), span(10, 100), span(10, 19), span(8, 17), span(1, 2), []api.Gauge{gauge(1, 0, 17)}},
		// Ends that are just reached.
		{reach(span(20, 30), span(1, 2), span(0, 0)), span(10, 100), span(30, 100), span(29, 29), span(1, 82), []api.Gauge{gauge(1, 29, 40)}},
		{reach(span(20, 30), span(1, 2), span(0, 0)), span(10, 100), span(10, 10), span(8, 8), span(1, 2), []api.Gauge{gauge(1, 0, 8)}},
		{reach(span(9, 9), span(5, 5), span(6, 9)), span(0, 100), span(0, 5), span(6, 6), span(0, 5), []api.Gauge{gauge(1, 0, 6), gauge(0, 0, 5)}},
	} {
		wantFlows(t, []api.Reach{x.r}, x.in, x.gauges, []api.Span{x.flow, x.out}, []api.Span{x.off})
	}
}

func TestTorn(t *testing.T) {
	g := example()
	for _, gauges := range [][]api.Gauge{
		{gauge(0, 0, 499)}, {gauge(0, 601, most)}, {gauge(1, 0, 479)}, {gauge(1, 591, 700)},
		{gauge(2, 0, 529)}, {gauge(2, 651, 700)}, {gauge(3, 0, 499)}, {gauge(3, 621, 621)},
		{gauge(1, 500, 510), gauge(1, 511, 520)}, {gauge(1, 511, 520), gauge(1, 500, 510)},
		{gauge(0, 500, 510), gauge(3, 541, 541)}, {gauge(3, 541, 541), gauge(0, 500, 510)},
		// What follows must not mend what does not fit above: the first reach would let any flow become some of these.
		{gauge(0, 0, 0), gauge(1, 0, 0), gauge(2, 50, 60), gauge(3, 20, 30)},
	} {
		wantNoFlows(t, g, exampleIn, gauges, api.ErrTorn)
		wantFalls(t, g, exampleIn, gauges, span(1000, 1000), false, api.ErrNone)
		wantNext(t, g, exampleIn, gauges, span(1000, 1000), api.ErrNone, 0, 0)
	}
	for _, gauges := range [][]api.Gauge{
		{gauge(0, 0, 500)}, {gauge(0, 600, most)}, {gauge(1, 0, 480)}, {gauge(1, 590, 700)},
		{gauge(3, 0, 500)}, {gauge(3, 620, 621)}, {gauge(0, 500, 510), gauge(3, 530, 540)},
	} {
		if flows, _, e := gallery.Flows(g, exampleIn, gauges); len(flows) != 4 || e != api.OK {
			t.Error(gauges, flows, e)
		}
	}
}

func TestFalls(t *testing.T) {
	g := example()
	// Without gauges any reach is suspected; so is one in which nothing more would be held back than before.
	wantFalls(t, g, exampleIn, nil, span(0, 0), true, api.OK, 0, 1, 2)
	wantFalls(t, g, exampleIn, nil, span(1000000, 1000000), true, api.OK, 0, 1, 2)
	// As much as ever flows past the last shaft: nothing fell, or nothing that holds back what flows into that reach.
	for _, x := range []struct {
		through int
		want    []int
	}{{589, nil}, {590, []int{1}}, {599, []int{1}}, {600, []int{0, 1}}, {649, []int{0, 1}}, {650, []int{0, 1, 2}}} {
		e := api.OK
		if x.want == nil {
			e = api.ErrNone
		}
		wantFalls(t, g, exampleIn, []api.Gauge{gauge(3, 620, 620)}, span(100, x.through), e == api.OK, e, x.want...)
	}
	// The roof cannot have fallen above a shaft past which as much flows as ever.
	wantFalls(t, g, exampleIn, []api.Gauge{gauge(2, 530, 650)}, span(100, 300), true, api.OK, 2)
	wantFalls(t, g, exampleIn, []api.Gauge{gauge(2, 360, 361)}, span(100, 300), false, api.OK, 1)
	wantFalls(t, g, exampleIn, []api.Gauge{gauge(2, 361, 400)}, span(100, 300), false, api.ErrNone)
	wantFalls(t, g, exampleIn, []api.Gauge{gauge(2, 140, 149)}, span(100, 300), false, api.OK, 0)
	wantFalls(t, g, exampleIn, []api.Gauge{gauge(2, 150, 150)}, span(100, 300), false, api.OK, 0, 1)
	// Flows may fit without a fall, and not with any.
	wantFalls(t, g, exampleIn, []api.Gauge{gauge(3, 500, 620)}, span(100, 300), false, api.ErrNone)
	// A fall leaves the less of what was let through and what is: never more.
	narrow := []api.Reach{reach(span(200, 400), span(0, 0), span(0, 0))}
	for _, x := range []struct {
		through, out api.Span
		suspected    bool
	}{
		{span(300, 500), span(200, 200), true}, {span(300, 500), span(199, 199), false},
		{span(300, 500), span(400, 400), true}, {span(300, 500), span(401, 401), false},
		{span(100, 300), span(300, 300), true}, {span(100, 300), span(301, 301), false},
		{span(100, 300), span(100, 100), true}, {span(100, 300), span(99, 99), false},
		{span(250, 260), span(200, 200), true}, {span(250, 260), span(261, 400), false},
		{span(0, 1000000), span(401, 401), false}, {span(0, 1000000), span(0, 0), true},
	} {
		_, _, torn := gallery.Flows(narrow, span(1000, 1000), []api.Gauge{{Shaft: 1, Flow: x.out}})
		if x.suspected {
			wantFalls(t, narrow, span(1000, 1000), []api.Gauge{{Shaft: 1, Flow: x.out}}, x.through, torn == api.OK, api.OK, 0)
		} else {
			wantFalls(t, narrow, span(1000, 1000), []api.Gauge{{Shaft: 1, Flow: x.out}}, x.through, false, api.ErrNone)
		}
	}
}

func TestNext(t *testing.T) {
	g := example()
	// One that is suspected is left wherever one measures: the first shaft is as good as any.
	wantNext(t, g, exampleIn, []api.Gauge{gauge(3, 300, 310), gauge(1, 480, 590)}, span(100, 300), api.OK, 0, 1)
	// A fall in either reach: the shaft between them tells which, if what flows there differs.
	two := wide(2)
	wantNext(t, two, span(500, 500), []api.Gauge{gauge(2, 100, 300)}, span(100, 300), api.OK, 1, 1)
	wantNext(t, two, span(300, 500), []api.Gauge{gauge(2, 100, 300)}, span(100, 300), api.OK, 0, 2)
	wantNext(t, two, span(301, 500), []api.Gauge{gauge(2, 100, 300)}, span(100, 300), api.OK, 1, 1)
	// In the middle of four reaches half of them are left.
	wantNext(t, wide(4), span(500, 500), []api.Gauge{gauge(4, 100, 300)}, span(100, 300), api.OK, 2, 2)
	// Of five reaches as many may be left, three, at the shafts 2 and 3.
	wantNext(t, wide(5), span(500, 500), []api.Gauge{gauge(5, 100, 300)}, span(100, 300), api.OK, 2, 3)
	wantNext(t, wide(12), span(500, 500), []api.Gauge{gauge(12, 100, 300)}, span(100, 300), api.OK, 6, 6)
	// Also if there are as many gauges as there may be.
	wantNext(t, wide(4), span(500, 500), slices.Repeat([]api.Gauge{gauge(4, 100, 300)}, 30), span(100, 300), api.OK, 2, 2)
	// Flows past the shaft 2 that differ for each reach, and past others for some.
	steps := wide(3)
	for i := range steps {
		steps[i].Gain = span(50, 50)
	}
	wantNext(t, steps, span(500, 500), nil, span(100, 120), api.OK, 2, 1)
	wantNext(t, steps, span(500, 500), nil, span(100, 149), api.OK, 2, 1)
	wantNext(t, steps, span(500, 500), nil, span(100, 150), api.OK, 1, 2)
	wantNext(t, steps, span(500, 500), []api.Gauge{gauge(3, 200, 249)}, span(100, 150), api.OK, 2, 1)
	wantNext(t, steps, span(500, 500), []api.Gauge{gauge(3, 201, 249)}, span(100, 150), api.OK, 0, 1)
}

func TestClean(t *testing.T) {
	g := tight()
	wantClean(t, g, exampleIn, 450, api.OK)
	wantClean(t, g, exampleIn, 451, api.OK, 0)
	wantClean(t, g, exampleIn, 470, api.OK, 0)
	wantClean(t, g, exampleIn, 471, api.OK, 0, 2)
	wantClean(t, g, exampleIn, 500, api.OK, 0, 2)
	wantClean(t, g, exampleIn, 501, api.ErrNone)
	wantClean(t, g, exampleIn, most, api.ErrNone)
	wantClean(t, g, exampleIn, 0, api.OK)
	for _, want := range []int{-1, most + 1, math.MinInt, math.MaxInt} {
		wantClean(t, g, exampleIn, want, api.ErrArg)
		wantClean(t, g, span(0, 0), want, api.ErrArg)
	}
	// The least counts, of what flows in and of what is let through.
	wantClean(t, g, span(400, 600), 400, api.OK)
	wantClean(t, g, span(400, 600), 401, api.ErrNone)
	room := []api.Reach{reach(span(10, 900), span(0, 0), span(0, 0))}
	wantClean(t, room, span(500, 600), 10, api.OK)
	wantClean(t, room, span(500, 600), 11, api.OK, 0)
	wantClean(t, room, span(500, 600), 500, api.OK, 0)
	wantClean(t, room, span(500, 600), 501, api.ErrNone)
	// Where enough is gained, nothing above has to be cleaned.
	leaky := slices.Repeat([]api.Reach{reach(span(100, 100), span(0, 0), span(100, 100))}, 4)
	wantClean(t, leaky, span(100, 100), 200, api.OK)
	wantClean(t, leaky, span(100, 100), 201, api.OK, 3)
	wantClean(t, leaky, span(100, 100), 300, api.OK, 3)
	wantClean(t, leaky, span(100, 100), 301, api.OK, 2, 3)
	// More and more reaches, from the narrowest one on.
	late := wide(4)
	late[1].Cap, late[2].Cap, late[3].Cap = span(5, 5), span(4, 4), span(9, 9)
	late[2].Gain = span(10, 10)
	wantClean(t, late, span(20, 20), 9, api.OK)
	wantClean(t, late, span(20, 20), 14, api.OK, 3)
	wantClean(t, late, span(20, 20), 15, api.OK, 2, 3)
	wantClean(t, late, span(20, 20), 16, api.OK, 1, 2, 3)
	wantClean(t, late, span(20, 20), 30, api.OK, 1, 2, 3)
	wantClean(t, late, span(20, 20), 31, api.ErrNone)
	// What leaks leaves nothing, and what is gained behind it flows whatever is cleaned above.
	dry := []api.Reach{reach(span(3, 3), span(0, 0), span(0, 0)), reach(span(9, 9), span(5, 8), span(0, 0)), reach(span(4, 4), span(0, 0), span(2, 3))}
	wantClean(t, dry, span(10, 10), 2, api.OK)
	wantClean(t, dry, span(10, 10), 3, api.OK, 0)
	wantClean(t, dry, span(10, 10), 4, api.OK, 0, 1)
	wantClean(t, dry, span(10, 10), 5, api.ErrNone)
	wantClean(t, dry, span(13, 13), 6, api.OK, 0, 1)
	wantClean(t, dry, span(13, 13), 7, api.OK, 0, 1, 2)
}
