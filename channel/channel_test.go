package channel_test

import (
	"math"
	"slices"
	"testing"

	"aflaj/api"
	"aflaj/channel"
)

func span(lo, hi int) api.Span { return api.Span{Lo: lo, Hi: hi} }

func canal(from int, seep, fill api.Span) api.Canal {
	return api.Canal{From: from, Seep: seep, Fill: fill}
}

func use(field, from, to int) api.Use {
	return api.Use{Field: field, Turn: api.Turn{From: from, To: to}}
}

// uses returns uses by their fields, and the ends of their turns.
func uses(l ...int) []api.Use {
	var all []api.Use
	for i := 0; i < len(l); i += 3 {
		all = append(all, use(l[i], l[i+1], l[i+2]))
	}
	return all
}

func ints(l ...int) []int { return l }

// mostFlow is the most that flows past the last shaft of a gallery, and cycle the most minutes of a cycle.
const (
	mostFlow = 13000000
	cycle    = 23040
)

// example is the net of the chapter's examples, and exampleFlow its flow.
func example() api.Net {
	return api.Net{
		Canals: []api.Canal{
			canal(0, span(100, 200), span(50, 60)),
			canal(1, span(0, 0), span(10, 10)),
			canal(1, span(500, 500), span(0, 0)),
		},
		Fields: []int{2, 3},
		Dry:    30,
		Days:   1,
	}
}

var exampleFlow = span(10, 12)

// exampleUses are those of the chapter's examples.
func exampleUses() []api.Use { return uses(0, 0, 60, 1, 60, 90, 0, 200, 230) }

// row is a net of one canal after the other, and a field at the end.
func row(dry int, canals ...api.Canal) api.Net {
	for i := range canals {
		canals[i].From = i
	}
	return api.Net{Canals: canals, Fields: []int{len(canals)}, Dry: dry, Days: 1}
}

// tree is a net with a field at each node: two canals begin at the first one, and two behind each of them, and one behind the last of these.
func tree(dry int) api.Net {
	n := api.Net{Dry: dry, Days: 1}
	for i, from := range ints(0, 0, 1, 2, 1, 2, 6) {
		n.Canals = append(n.Canals, canal(from, span(0, 0), span(1<<i, 1<<i)))
	}
	n.Fields = ints(7, 3, 5, 4, 6, 0, 1, 2)
	return n
}

// full is a net with as much of everything as may be.
func full() api.Net {
	n := api.Net{Dry: cycle, Days: 16}
	for i := range 16 {
		n.Canals = append(n.Canals, canal(i, span(0, 1000), span(0, 10000000)))
		if i < 12 {
			n.Fields = append(n.Fields, 16-i)
		}
	}
	return n
}

func wantPath(t *testing.T, n api.Net, field int, e api.Errno, want ...int) {
	t.Helper()
	if got, f := channel.Path(n, field); !slices.Equal(got, want) || f != e {
		t.Errorf("Path %v %v: %v %v, want %v %v", n, field, got, f, want, e)
	}
}

func wantMoves(t *testing.T, n api.Net, from, to int, e api.Errno, wantShut, wantOpen []int) {
	t.Helper()
	if shut, open, f := channel.Moves(n, from, to); !slices.Equal(shut, wantShut) || !slices.Equal(open, wantOpen) || f != e {
		t.Errorf("Moves %v %v %v: %v %v %v, want %v %v %v", n, from, to, shut, open, f, wantShut, wantOpen, e)
	}
}

func wantDries(t *testing.T, n api.Net, l []api.Use, e api.Errno, want ...[]int) {
	t.Helper()
	if got, f := channel.Dries(n, l); !slices.EqualFunc(got, want, slices.Equal) || f != e {
		t.Errorf("Dries %v %v: %v %v, want %v %v", n, l, got, f, want, e)
	}
}

func wantWaters(t *testing.T, n api.Net, flow api.Span, l []api.Use, want, wantLost []api.Span) {
	t.Helper()
	if fields, lost, e := channel.Waters(n, flow, l); !slices.Equal(fields, want) || !slices.Equal(lost, wantLost) || e != api.OK {
		t.Errorf("Waters %v %v %v: %v %v %v, want %v %v", n, flow, l, fields, lost, e, want, wantLost)
	}
}

func wantNoWaters(t *testing.T, n api.Net, flow api.Span, l []api.Use, want api.Errno) {
	t.Helper()
	if fields, lost, e := channel.Waters(n, flow, l); len(fields)+len(lost) != 0 || e != want {
		t.Errorf("Waters %v %v %v: %v %v %v, want %v", n, flow, l, fields, lost, e, want)
	}
}

func wantMinutes(t *testing.T, n api.Net, flow api.Span, field, litres int, e api.Errno, want int) {
	t.Helper()
	if got, f := channel.Minutes(n, flow, field, litres); got != want || f != e {
		t.Errorf("Minutes %v %v %v %v: %v %v, want %v %v", n, flow, field, litres, got, f, want, e)
	}
}

func wantOrder(t *testing.T, n api.Net, flow api.Span, fields, minutes []int, e api.Errno, total int, want ...int) {
	t.Helper()
	if got, sum, f := channel.Order(n, flow, fields, minutes); !slices.Equal(got, want) || sum != total || f != e {
		t.Errorf("Order %v %v %v %v: %v %v %v, want %v %v %v", n, flow, fields, minutes, got, sum, f, want, total, e)
	}
}

func TestExamples(t *testing.T) {
	n := example()
	if e := channel.Check(n); e != api.OK {
		t.Error(e)
	}
	wantPath(t, n, 1, api.OK, 0, 2)
	wantMoves(t, n, 0, 1, api.OK, ints(1), ints(2))
	wantDries(t, n, exampleUses(), api.OK, ints(0, 1), ints(2), ints(0, 1))
	wantWaters(t, n, exampleFlow, exampleUses(), []api.Span{span(604, 862), span(120, 162)}, []api.Span{span(210, 384), span(20, 20), span(120, 162)})
	wantMinutes(t, n, exampleFlow, 0, 422, api.OK, 60)
	wantMinutes(t, n, exampleFlow, 0, 423, api.OK, 61)
	wantOrder(t, n, exampleFlow, ints(0, 1, 0), ints(30, 60, 30), api.OK, 686, 1, 0, 2)
	// The example of the whole document.
	wantWaters(t, n, exampleFlow, uses(0, 0, 60), []api.Span{span(422, 593), {}}, []api.Span{span(105, 192), span(10, 10), {}})
}

// wrongSpans are no spans from 0 to a number.
func wrongSpans(most int) []api.Span {
	return []api.Span{
		span(1, 0), span(-1, 0), span(-1, -1), span(-1, most), span(0, most+1), span(most+1, most+1), span(most, most-1),
		span(math.MinInt, 0), span(0, math.MaxInt), span(math.MinInt, math.MaxInt), span(math.MaxInt, math.MinInt),
		span(math.MinInt, math.MinInt), span(math.MaxInt, math.MaxInt), span(math.MaxInt, 0),
	}
}

// wrongNets are not valid, each for one reason.
func wrongNets() []api.Net {
	var wrong []api.Net
	change := func(how func(n *api.Net)) {
		for _, n := range []api.Net{example(), full()} {
			how(&n)
			wrong = append(wrong, n)
		}
	}
	for _, seep := range wrongSpans(1000) {
		change(func(n *api.Net) { n.Canals[2].Seep = seep })
	}
	for _, fill := range wrongSpans(10000000) {
		change(func(n *api.Net) { n.Canals[0].Fill = fill })
	}
	for at := range 3 {
		for _, from := range ints(-1, at+1, at+2, 1000, math.MinInt, math.MaxInt) {
			change(func(n *api.Net) { n.Canals[at].From = from })
		}
	}
	for _, node := range ints(-1, math.MinInt, math.MaxInt, 17) {
		change(func(n *api.Net) { n.Fields[0] = node })
		change(func(n *api.Net) { n.Fields[1] = node })
	}
	change(func(n *api.Net) { n.Fields[1] = n.Fields[0] })
	change(func(n *api.Net) { n.Fields[0] = len(n.Canals) + 1 })
	change(func(n *api.Net) { n.Canals = nil })
	for _, dry := range ints(-1, cycle+1, math.MinInt, math.MaxInt) {
		change(func(n *api.Net) { n.Dry = dry })
	}
	for _, days := range ints(-1, 0, 17, math.MinInt, math.MaxInt) {
		change(func(n *api.Net) { n.Days = days })
	}
	many, fields := full(), full()
	many.Canals = append(many.Canals, canal(0, span(0, 0), span(0, 0)))
	fields.Fields = append(fields.Fields, 0)
	return append(wrong, many, fields, api.Net{}, api.Net{Canals: make([]api.Canal, 1000), Days: 1}, api.Net{Fields: make([]int, 1000), Days: 1}, api.Net{Fields: ints(0, 0), Days: 1})
}

func TestInvalidNets(t *testing.T) {
	for _, n := range wrongNets() {
		if e := channel.Check(n); e != api.ErrNet {
			t.Errorf("Check %v: %v", n, e)
		}
		// Whether all else is valid or not.
		for _, wrong := range []bool{false, true} {
			field, flow, l, fields, minutes := 0, exampleFlow, exampleUses(), ints(0, 1), ints(5, 6)
			if wrong {
				field, flow, l, fields, minutes = -1, span(1, 0), uses(-1, 5, 4), ints(1, 2, 3, 4, 5, 6, 7), nil
			}
			wantPath(t, n, field, api.ErrNet)
			wantMoves(t, n, field, field, api.ErrNet, nil, nil)
			wantDries(t, n, l, api.ErrNet)
			wantNoWaters(t, n, flow, l, api.ErrNet)
			wantMinutes(t, n, flow, field, field, api.ErrNet, 0)
			wantOrder(t, n, flow, fields, minutes, api.ErrNet, 0)
		}
	}
}

func TestNets(t *testing.T) {
	most := example()
	most.Canals[0] = canal(0, span(1000, 1000), span(10000000, 10000000))
	most.Dry, most.Days = 0, 16
	for _, n := range []api.Net{
		{Days: 1}, {Canals: []api.Canal{}, Fields: []int{}, Days: 16, Dry: cycle}, {Fields: ints(0), Days: 1}, {Canals: make([]api.Canal, 16), Days: 1},
		full(), most, tree(0), row(5, make([]api.Canal, 16)...),
	} {
		if e := channel.Check(n); e != api.OK {
			t.Errorf("Check %v: %v", n, e)
		}
	}
}

func TestInvalidFields(t *testing.T) {
	for _, n := range []api.Net{example(), full(), {Days: 1}} {
		for _, field := range ints(-1, len(n.Fields), 12, math.MinInt, math.MaxInt) {
			wantPath(t, n, field, api.ErrArg)
			wantMoves(t, n, field, field, api.ErrArg, nil, nil)
			wantMoves(t, n, 0, field, api.ErrArg, nil, nil)
			wantMoves(t, n, field, 0, api.ErrArg, nil, nil)
			wantMinutes(t, n, exampleFlow, field, 0, api.ErrArg, 0)
			wantMinutes(t, n, exampleFlow, field, -1, api.ErrArg, 0)
			wantMinutes(t, n, span(0, mostFlow+1), field, 0, api.ErrFlow, 0)
			wantOrder(t, n, exampleFlow, ints(field), ints(1), api.ErrFields, 0)
		}
	}
}

func TestInvalidFlows(t *testing.T) {
	for _, flow := range wrongSpans(mostFlow) {
		wantNoWaters(t, example(), flow, exampleUses(), api.ErrFlow)
		wantNoWaters(t, example(), flow, nil, api.ErrFlow)
		wantNoWaters(t, example(), flow, uses(-1, 5, 4), api.ErrFlow)
		wantMinutes(t, example(), flow, 0, 0, api.ErrFlow, 0)
		wantMinutes(t, example(), flow, -1, -1, api.ErrFlow, 0)
		wantOrder(t, example(), flow, nil, nil, api.ErrFlow, 0)
		wantOrder(t, example(), flow, make([]int, 7), nil, api.ErrFlow, 0)
		wantOrder(t, example(), flow, ints(-1), nil, api.ErrFlow, 0)
	}
	for _, flow := range []api.Span{span(0, 0), span(0, mostFlow), span(mostFlow, mostFlow)} {
		wantWaters(t, example(), flow, nil, make([]api.Span, 2), make([]api.Span, 3))
		wantMinutes(t, example(), flow, 0, 0, api.OK, 0)
		wantOrder(t, example(), flow, nil, nil, api.OK, 0)
	}
}

func TestInvalidUses(t *testing.T) {
	wrong := [][]api.Use{
		uses(-1, 0, 5), uses(2, 0, 5), uses(math.MinInt, 0, 5), uses(math.MaxInt, 0, 5),
		uses(0, -1, 5), uses(0, 5, 5), uses(0, 6, 5), uses(0, 0, 0), uses(0, 1440, 1440), uses(0, 0, 1441), uses(0, 1440, 1441), uses(0, 1441, 1442),
		uses(0, math.MinInt, 5), uses(0, 5, math.MaxInt), uses(0, math.MinInt, math.MaxInt), uses(0, math.MaxInt, math.MinInt), uses(0, 5, math.MinInt),
		uses(0, 0, 5, 0, 4, 6), uses(0, 0, 5, 1, 0, 5), uses(0, 10, 15, 1, 0, 5), uses(0, 0, 1440, 1, 1439, 1440), uses(0, 0, 1440, 1, 1440, 1441),
		uses(0, 0, 5, 2, 5, 6), uses(0, 0, 5, 1, 7, 7, 0, 9, 12), uses(0, 0, 5, 1, 7, 6, 0, 9, 12), uses(0, 0, 5, 0, 6, 9, 1, 8, 12), uses(0, 0, 5, 0, 6, 9, 1, 4, 5),
		make([]api.Use, 1), make([]api.Use, 61), make([]api.Use, 1000), minuteUses(61),
	}
	for _, l := range wrong {
		wantDries(t, example(), l, api.ErrUses)
		wantNoWaters(t, example(), exampleFlow, l, api.ErrUses)
	}
	wantDries(t, api.Net{Days: 1}, uses(0, 0, 1), api.ErrUses)
	for _, l := range [][]api.Use{nil, {}, minuteUses(60), uses(1, 0, 1440), uses(1, 1439, 1440), uses(0, 0, 1, 0, 1, 2, 1, 1439, 1440)} {
		if _, e := channel.Dries(example(), l); e != api.OK {
			t.Error(l, e)
		}
		if _, _, e := channel.Waters(example(), exampleFlow, l); e != api.OK {
			t.Error(l, e)
		}
	}
	wantDries(t, full(), uses(11, 0, cycle), api.OK, nil)
	wantDries(t, full(), uses(11, 0, cycle+1), api.ErrUses)
}

// minuteUses are uses of a minute each, one after the other.
func minuteUses(many int) []api.Use {
	var l []api.Use
	for i := range many {
		l = append(l, use(i%2, i, i+1))
	}
	return l
}

func TestInvalidMinutes(t *testing.T) {
	for _, want := range ints(-1, 1000000000001, math.MinInt, math.MaxInt) {
		wantMinutes(t, example(), exampleFlow, 0, want, api.ErrArg, 0)
	}
	wantMinutes(t, example(), exampleFlow, 0, 1000000000000, api.ErrNone, 0)
	wantMinutes(t, example(), span(5, 1), 0, -1, api.ErrFlow, 0)
}

func TestInvalidOrders(t *testing.T) {
	n := example()
	for _, x := range []struct {
		fields, minutes []int
		e               api.Errno
	}{
		{make([]int, 7), make([]int, 7), api.ErrMany}, {make([]int, 7), nil, api.ErrMany}, {ints(9, 9, 9, 9, 9, 9, 9), ints(1, 1, 1, 1, 1, 1, 1), api.ErrMany},
		{make([]int, 1000), make([]int, 1000), api.ErrMany}, {ints(0, 0, 0, 0, 0, 0, 0), ints(1, 1, 1, 1, 1, 1, 1), api.ErrMany},
		{ints(0), nil, api.ErrFields}, {nil, ints(1), api.ErrFields}, {ints(0, 1), ints(1), api.ErrFields}, {ints(0, 1), ints(1, 1, 1), api.ErrFields}, {nil, make([]int, 7), api.ErrFields},
		{ints(2), ints(1), api.ErrFields}, {ints(-1), ints(1), api.ErrFields}, {ints(0, 2), ints(1, 1), api.ErrFields}, {ints(math.MaxInt, 0), ints(1, 1), api.ErrFields},
		{ints(0), ints(0), api.ErrFields}, {ints(0), ints(-1), api.ErrFields}, {ints(0, 1), ints(1, 0), api.ErrFields}, {ints(0), ints(math.MinInt), api.ErrFields}, {ints(0), ints(math.MaxInt), api.ErrFields},
		{ints(0), ints(1441), api.ErrFields}, {ints(0, 1), ints(1440, 1), api.ErrFields}, {ints(0, 1), ints(1, 1440), api.ErrFields}, {ints(0, 1, 0), ints(720, 720, 1), api.ErrFields},
		{ints(0, 1), ints(math.MaxInt, math.MaxInt), api.ErrFields}, {ints(0, 1, 0), ints(math.MaxInt, math.MaxInt, 2), api.ErrFields}, {ints(0, 1), ints(1441, -1), api.ErrFields},
	} {
		wantOrder(t, n, exampleFlow, x.fields, x.minutes, x.e, 0)
		wantOrder(t, n, span(1, 0), x.fields, x.minutes, api.ErrFlow, 0)
	}
	wantOrder(t, n, span(0, 0), ints(0, 1), ints(1439, 1), api.OK, 0, 0, 1)
	wantOrder(t, n, span(0, 0), ints(0), ints(1440), api.OK, 0, 0)
	wantOrder(t, n, span(0, 0), make([]int, 6), ints(240, 240, 240, 240, 240, 240), api.OK, 0, 0, 1, 2, 3, 4, 5)
	wantOrder(t, n, span(0, 0), make([]int, 6), ints(240, 240, 240, 240, 240, 241), api.ErrFields, 0)
}

func TestPaths(t *testing.T) {
	n := tree(0)
	for field, path := range [][]int{ints(1, 5, 6), ints(0, 2), ints(0, 4), ints(1, 3), ints(1, 5), nil, ints(0), ints(1)} {
		wantPath(t, n, field, api.OK, path...)
	}
	wantPath(t, full(), 0, api.OK, 0, 1, 2, 3, 4, 5, 6, 7, 8, 9, 10, 11, 12, 13, 14, 15)
	wantPath(t, full(), 11, api.OK, 0, 1, 2, 3, 4)
	wantPath(t, api.Net{Fields: ints(0), Days: 1}, 0, api.OK)
	star := api.Net{Canals: make([]api.Canal, 3), Fields: ints(3, 1), Days: 1}
	wantPath(t, star, 0, api.OK, 2)
	wantPath(t, star, 1, api.OK, 0)
}

func TestMoves(t *testing.T) {
	n := tree(0)
	for _, x := range []struct {
		from, to   int
		shut, open []int
	}{
		// Nothing in common.
		{0, 1, ints(1, 5, 6), ints(0, 2)}, {6, 7, ints(0), ints(1)},
		// Something in common.
		{0, 3, ints(5, 6), ints(3)}, {1, 2, ints(2), ints(4)},
		// One path is the beginning of the other one, or there is none.
		{0, 4, ints(6), nil}, {0, 7, ints(5, 6), nil}, {0, 5, ints(1, 5, 6), nil}, {5, 6, nil, ints(0)},
	} {
		wantMoves(t, n, x.from, x.to, api.OK, x.shut, x.open)
		wantMoves(t, n, x.to, x.from, api.OK, x.open, x.shut)
	}
	for field := range n.Fields {
		wantMoves(t, n, field, field, api.OK, nil, nil)
	}
}

func TestDries(t *testing.T) {
	one := row(30, canal(0, span(0, 0), span(1, 1)), canal(1, span(0, 0), span(1, 1)))
	both := ints(0, 1)
	for _, x := range []struct {
		n    api.Net
		l    []api.Use
		want [][]int
	}{
		{one, nil, nil}, {one, uses(), nil},
		// Exactly Dry minutes after it ended, in this cycle.
		{one, uses(0, 100, 200, 0, 230, 240), [][]int{both, nil}},
		{one, uses(0, 100, 200, 0, 231, 240), [][]int{both, both}},
		{one, uses(0, 100, 200, 0, 200, 240), [][]int{both, nil}},
		// And over its end.
		{one, uses(0, 10, 20, 0, 500, 1420), [][]int{nil, both}},
		{one, uses(0, 11, 20, 0, 500, 1420), [][]int{both, both}},
		{one, uses(0, 0, 20, 0, 500, 1410), [][]int{nil, both}},
		{one, uses(0, 0, 20, 0, 500, 1409), [][]int{both, both}},
		{one, uses(0, 0, 20, 0, 500, 1440), [][]int{nil, both}},
		// The same use a cycle before.
		{one, uses(0, 0, 1440), [][]int{nil}},
		{one, uses(0, 15, 1425), [][]int{nil}}, {one, uses(0, 15, 1424), [][]int{both}}, {one, uses(0, 16, 1425), [][]int{both}},
		{row(0, one.Canals...), uses(0, 0, 1440), [][]int{nil}}, {row(0, one.Canals...), uses(0, 0, 1439), [][]int{both}},
		{row(0, one.Canals...), uses(0, 5, 9, 0, 9, 12, 0, 13, 14), [][]int{both, nil, both}},
		{row(0, one.Canals...), uses(0, 0, 9, 0, 13, 1440), [][]int{nil, both}},
		{row(1430, one.Canals...), uses(0, 5, 15), [][]int{nil}}, {row(1429, one.Canals...), uses(0, 5, 15), [][]int{both}},
		{row(cycle, one.Canals...), uses(0, 5, 6), [][]int{nil}}, {row(cycle, one.Canals...), uses(0, 5, 6, 0, 9, 10), [][]int{nil, nil}},
		// Later uses of this cycle keep nothing wet in it.
		{row(1300, one.Canals...), uses(0, 0, 1, 0, 139, 140), [][]int{nil, nil}},
		{row(1300, one.Canals...), uses(0, 0, 1, 0, 138, 139), [][]int{both, nil}},
	} {
		wantDries(t, x.n, x.l, api.OK, x.want...)
	}
}

func TestDriesOfPaths(t *testing.T) {
	// Only the canals that the paths share are wet, and as long as any of them carried water.
	l := uses(0, 100, 110, 3, 110, 120, 1, 120, 130, 4, 150, 160, 0, 170, 180, 5, 200, 210, 2, 210, 211)
	wantDries(t, tree(0), l, api.OK, ints(1, 5, 6), ints(3), ints(0, 2), ints(1, 5), ints(1, 5, 6), nil, ints(0, 4))
	wantDries(t, tree(30), l, api.OK, ints(1, 5, 6), ints(3), ints(0, 2), ints(5), ints(6), nil, ints(0, 4))
	wantDries(t, tree(59), l, api.OK, ints(1, 5, 6), ints(3), ints(0, 2), nil, ints(6), nil, ints(0, 4))
	wantDries(t, tree(80), l, api.OK, ints(1, 5, 6), ints(3), ints(0, 2), nil, nil, nil, ints(4))
	// In a cycle of days, and over its end: each canal has an end of its own.
	days := tree(100)
	days.Days = 2
	wantDries(t, days, uses(6, 10, 20, 7, 20, 30, 2, 50, 60, 0, 2700, 2800, 1, 2800, 2880), api.OK, nil, nil, ints(4), ints(1, 5, 6), ints(0, 2))
	wantDries(t, days, uses(0, 19, 20, 1, 20, 21, 3, 2780, 2800, 2, 2800, 2880), api.OK, ints(5, 6), ints(2), ints(1, 3), ints(0, 4))
	wantDries(t, days, uses(0, 20, 21, 1, 100, 101, 3, 2780, 2800, 2, 2800, 2880), api.OK, ints(5, 6), ints(2), ints(1, 3), ints(0, 4))
	wantDries(t, days, uses(0, 21, 22, 1, 101, 102, 3, 2780, 2800, 2, 2800, 2880), api.OK, ints(1, 5, 6), ints(0, 2), ints(1, 3), ints(0, 4))
}

func TestWatersOfOneCanal(t *testing.T) {
	for _, x := range []struct {
		seep, fill, in api.Span
		out, lost      api.Span
	}{
		{span(0, 0), span(0, 0), span(7, 9), span(7, 9), span(0, 0)},
		{span(0, 0), span(0, 0), span(0, 0), span(0, 0), span(0, 0)},
		{span(0, 0), span(3, 5), span(0, 0), span(0, 0), span(0, 0)},
		// It soaks up some, or all.
		{span(0, 0), span(3, 5), span(7, 9), span(2, 6), span(3, 5)},
		{span(0, 0), span(7, 9), span(7, 9), span(0, 2), span(7, 9)},
		{span(0, 0), span(9, 9), span(7, 9), span(0, 0), span(7, 9)},
		{span(0, 0), span(8, 10), span(7, 9), span(0, 1), span(7, 9)},
		{span(500, 500), span(9, 99), span(7, 9), span(0, 0), span(7, 9)},
		{span(0, 0), span(10000000, 10000000), span(7, 9), span(0, 0), span(7, 9)},
		// All seeps away, or some of what is left.
		{span(1000, 1000), span(0, 0), span(7, 9), span(0, 0), span(7, 9)},
		{span(0, 1000), span(0, 0), span(7, 9), span(0, 9), span(0, 9)},
		{span(500, 500), span(0, 0), span(8, 10), span(4, 5), span(4, 5)},
		{span(500, 500), span(2, 2), span(8, 10), span(3, 4), span(5, 6)},
		// Rounded down and up.
		{span(500, 500), span(0, 0), span(7, 9), span(3, 5), span(3, 5)},
		{span(500, 500), span(0, 0), span(7, 7), span(3, 4), span(3, 4)},
		{span(1, 1), span(0, 0), span(1, 1), span(0, 1), span(0, 1)},
		{span(1, 1), span(0, 0), span(1000, 1000), span(999, 999), span(1, 1)},
		{span(1, 1), span(0, 0), span(999, 999), span(998, 999), span(0, 1)},
		{span(1, 1), span(0, 0), span(1001, 1001), span(999, 1000), span(1, 2)},
		{span(999, 999), span(0, 0), span(999, 1001), span(0, 2), span(998, 1000)},
		{span(999, 999), span(0, 0), span(1000, 1000), span(1, 1), span(999, 999)},
		// Each end has its own number of the canal.
		{span(100, 200), span(50, 60), span(600, 720), span(432, 603), span(105, 192)},
		{span(0, 500), span(0, 100), span(100, 100), span(0, 100), span(0, 100)},
		{span(200, 300), span(10, 20), span(101, 111), span(56, 81), span(28, 48)},
	} {
		n := row(0, canal(0, x.seep, x.fill))
		wantWaters(t, n, x.in, uses(0, 5, 6), []api.Span{x.out}, []api.Span{x.lost})
		// Twice, both times dry; and twice at once, where it is wet the second time.
		twice := span(2*x.out.Lo, 2*x.out.Hi)
		wantWaters(t, n, x.in, uses(0, 5, 6, 0, 7, 8), []api.Span{twice}, []api.Span{span(2*x.lost.Lo, 2*x.lost.Hi)})
		wet := row(0, canal(0, x.seep, span(0, 0)))
		fields, lost, _ := channel.Waters(wet, x.in, uses(0, 6, 7))
		wantWaters(t, n, x.in, uses(0, 5, 6, 0, 6, 7), []api.Span{span(x.out.Lo+fields[0].Lo, x.out.Hi+fields[0].Hi)}, []api.Span{span(x.lost.Lo+lost[0].Lo, x.lost.Hi+lost[0].Hi)})
	}
}

func TestWaters(t *testing.T) {
	// Rounded in each canal, and not behind the last one.
	half := canal(0, span(500, 500), span(0, 0))
	wantWaters(t, row(0, half, half, half), span(15, 15), uses(0, 0, 1), []api.Span{span(1, 2)}, []api.Span{span(7, 8), span(3, 4), span(1, 2)})
	wantWaters(t, row(0, half, half), span(1, 1), uses(0, 0, 1), []api.Span{span(0, 1)}, []api.Span{span(0, 1), span(0, 1)})
	// In each use, and not in all of them together.
	wantWaters(t, row(0, half), span(1, 1), uses(0, 0, 1, 0, 1, 2, 0, 2, 3), []api.Span{span(0, 3)}, []api.Span{span(0, 3)})
	wantWaters(t, row(0, half), span(1, 1), uses(0, 0, 3), []api.Span{span(1, 2)}, []api.Span{span(1, 2)})
	// What one canal soaks up does not come to the next one, which is dry as well.
	soaks := canal(0, span(0, 0), span(10, 12))
	wantWaters(t, row(0, soaks, soaks, soaks), span(25, 25), uses(0, 0, 1), []api.Span{span(0, 0)}, []api.Span{span(10, 12), span(10, 12), span(1, 5)})
	wantWaters(t, row(0, soaks, soaks), span(11, 11), uses(0, 0, 1, 0, 1, 2), []api.Span{span(11, 11)}, []api.Span{span(10, 11), span(0, 1)})
	// A field where all water comes from gets all of it, and keeps nothing wet.
	n := tree(5)
	wantWaters(t, n, span(10, 20), uses(5, 0, 7), []api.Span{5: span(70, 140), 7: {}}, make([]api.Span, 7))
	wantWaters(t, n, span(100, 200), uses(6, 5, 7, 5, 7, 20, 6, 20, 21), []api.Span{5: span(1300, 2600), 6: span(298, 598), 7: {}}, []api.Span{span(2, 2), 6: {}})
	// No water is none, but it carries what there is.
	wantWaters(t, n, span(0, 0), uses(0, 0, 7), make([]api.Span, 8), make([]api.Span, 7))
	wantWaters(t, n, span(0, 1), uses(0, 0, 3), []api.Span{7: {}}, []api.Span{1: span(0, 2), 5: span(0, 1), 6: {}})
	// Nobody, and nothing.
	wantWaters(t, api.Net{Days: 1}, span(1, 1), nil, nil, nil)
	wantWaters(t, n, span(1, 1), []api.Use{}, make([]api.Span, 8), make([]api.Span, 7))
	// A whole cycle is wet, as it was before.
	wantWaters(t, row(0, soaks), span(1, 2), uses(0, 0, 1440), []api.Span{span(1440, 2880)}, []api.Span{span(0, 0)})
	wantWaters(t, row(0, soaks), span(1, 2), uses(0, 0, 1439), []api.Span{span(1427, 2868)}, []api.Span{span(10, 12)})
}

func TestLimits(t *testing.T) {
	n := full()
	lost := slices.Repeat([]api.Span{span(0, mostFlow*cycle)}, 16)
	wantWaters(t, n, span(0, mostFlow), uses(0, 0, cycle), []api.Span{span(0, mostFlow*cycle), 11: {}}, lost)
	var l []api.Use
	for i := range 60 {
		l = append(l, use(0, i*384, (i+1)*384))
	}
	wantWaters(t, n, span(mostFlow, mostFlow), l, []api.Span{span(0, mostFlow*cycle), 11: {}}, lost)
	for i := range n.Canals {
		n.Canals[i].Seep, n.Canals[i].Fill = span(0, 0), span(10000000, 10000000)
	}
	n.Dry = 0
	most := mostFlow * (cycle - 1)
	wantWaters(t, n, span(mostFlow, mostFlow), uses(0, 0, cycle-1), []api.Span{span(most-160000000, most-160000000), 11: {}}, slices.Repeat([]api.Span{span(10000000, 10000000)}, 16))
	wantMinutes(t, n, span(mostFlow, mostFlow), 0, mostFlow*cycle-160000000, api.OK, cycle)
	wantMinutes(t, n, span(mostFlow, mostFlow), 0, mostFlow*cycle-160000000+1, api.ErrNone, 0)
	wantMinutes(t, n, span(mostFlow, mostFlow), 0, 1000000000000, api.ErrNone, 0)
	// All of them are dry once, whatever the order is.
	wantOrder(t, n, span(mostFlow, mostFlow), ints(0, 0, 0, 0, 0, 0), ints(3840, 3840, 3840, 3840, 3840, 3839), api.OK, most-160000000, 0, 1, 2, 3, 4, 5)
}

func TestMinutes(t *testing.T) {
	n := example()
	for _, x := range []struct {
		flow                   api.Span
		field, litres, minutes int
	}{
		{exampleFlow, 0, 0, 0}, {exampleFlow, 1, 0, 0},
		// 8 of 10 are left of each minute, after 60, and then 10.
		{exampleFlow, 0, 1, 8}, {exampleFlow, 0, 6, 8}, {exampleFlow, 0, 7, 9}, {exampleFlow, 0, 14, 9}, {exampleFlow, 0, 15, 10},
		{exampleFlow, 0, 11462, 1440},
		{exampleFlow, 1, 4, 7}, {exampleFlow, 1, 5, 8}, {exampleFlow, 1, 5733, 1440}, {exampleFlow, 1, 5736, 1440}, {exampleFlow, 1, 5732, 1439},
		{span(1, 1), 0, 1, 74}, {span(1, 1), 0, 2, 75}, {span(1, 1), 0, 1094, 1440},
		{span(1, mostFlow), 0, 1094, 1440},
	} {
		wantMinutes(t, n, x.flow, x.field, x.litres, api.OK, x.minutes)
	}
	wantMinutes(t, n, exampleFlow, 0, 11463, api.ErrNone, 0)
	wantMinutes(t, n, exampleFlow, 1, 5737, api.ErrNone, 0)
	wantMinutes(t, n, span(1, 1), 0, 1095, api.ErrNone, 0)
	wantMinutes(t, n, span(0, 1000), 0, 1, api.ErrNone, 0)
	wantMinutes(t, n, span(0, 1000), 0, 0, api.OK, 0)
	// More days, and a field that nothing leads to. All canals were dry, for a whole cycle, too, and however long they stay wet.
	n.Days, n.Dry = 3, cycle
	wantMinutes(t, n, exampleFlow, 0, 11463, api.OK, 1441)
	wantMinutes(t, n, exampleFlow, 0, 34502, api.OK, 4320)
	wantMinutes(t, n, exampleFlow, 0, 34503, api.ErrNone, 0)
	wantMinutes(t, api.Net{Fields: ints(0), Days: 1}, span(3, 4), 0, 4320, api.OK, 1440)
	wantMinutes(t, api.Net{Fields: ints(0), Days: 1}, span(3, 4), 0, 4, api.OK, 2)
	wantMinutes(t, api.Net{Fields: ints(0), Days: 1}, span(3, 4), 0, 4321, api.ErrNone, 0)
	// What a canal lets through of nothing at all.
	wantMinutes(t, row(0, canal(0, span(0, 1000), span(0, 0))), span(9, 9), 0, 1, api.ErrNone, 0)
}

func TestOrder(t *testing.T) {
	n := example()
	wantOrder(t, n, exampleFlow, nil, nil, api.OK, 0)
	wantOrder(t, n, exampleFlow, []int{}, []int{}, api.OK, 0)
	wantOrder(t, api.Net{Days: 1}, exampleFlow, nil, nil, api.OK, 0)
	wantOrder(t, n, exampleFlow, ints(1), ints(60), api.OK, 216, 0)
	wantOrder(t, n, exampleFlow, ints(0, 1), ints(60, 60), api.OK, 686, 1, 0)
	wantOrder(t, n, exampleFlow, ints(1, 0), ints(60, 60), api.OK, 686, 0, 1)
	wantOrder(t, n, exampleFlow, ints(0, 1), ints(60, 61), api.OK, 690, 1, 0)
	// Turns of one path that are together: its own canal soaks up once.
	own := api.Net{Canals: []api.Canal{canal(0, span(0, 0), span(7, 7)), canal(0, span(0, 0), span(9, 9)), canal(0, span(0, 0), span(11, 11))}, Fields: ints(1, 2, 3), Days: 1}
	wantOrder(t, own, span(10, 10), ints(0, 1, 0, 1, 0, 2), ints(2, 2, 2, 2, 2, 2), api.OK, 93, 0, 2, 4, 1, 3, 5)
	wantOrder(t, own, span(10, 10), ints(2, 1, 0, 0, 1, 2), ints(2, 2, 2, 2, 2, 2), api.OK, 93, 0, 5, 1, 4, 2, 3)
	// Over the end of the cycle as well: there the first of them was the last one before.
	wantOrder(t, own, span(10, 10), ints(0, 1, 0), ints(480, 480, 480), api.OK, 14384, 0, 1, 2)
	wantOrder(t, own, span(10, 10), ints(0, 1, 0), ints(480, 480, 479), api.OK, 14374, 0, 2, 1)
	own.Dry = 1
	wantOrder(t, own, span(10, 10), ints(0, 1, 0), ints(480, 480, 479), api.OK, 14374, 0, 1, 2)
	// Orders that give the same: the first one.
	wantOrder(t, own, span(10, 10), ints(2, 1, 0), ints(9, 9, 9), api.OK, 243, 0, 1, 2)
	wantOrder(t, own, span(0, 10), ints(2, 1, 0), ints(9, 9, 9), api.OK, 0, 0, 1, 2)
	// A turn that is soaked up whole is best where most would be soaked up.
	wantOrder(t, row(0, canal(0, span(0, 0), span(50, 50))), span(10, 99), ints(0, 0), ints(10, 1), api.OK, 100, 1, 0)
	// Only what is for sure counts: the one canal may soak up more.
	sure := row(0, canal(0, span(0, 0), span(0, 90)), canal(0, span(0, 0), span(0, 0)), canal(0, span(0, 0), span(0, 80)))
	sure.Fields = ints(1, 3)
	wantOrder(t, sure, span(10, 20), ints(0, 1), ints(5, 5), api.OK, 50, 1, 0)
	wantOrder(t, sure, span(10, 20), ints(0, 1, 0), ints(5, 17, 9), api.OK, 180, 0, 1, 2)
}
