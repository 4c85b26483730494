package salt_test

import (
	"math"
	"slices"
	"testing"

	"aflaj/api"
	"aflaj/channel"
	"aflaj/salt"
)

func span(lo, hi int) api.Span { return api.Span{Lo: lo, Hi: hi} }

// one is a span of one number.
func one(n int) api.Span { return span(n, n) }

func ints(l ...int) []int { return l }

// lists are plans of the numbers of each rent.
func lists(l ...[]int) [][]int { return l }

func rent(minutes, price int, fields ...int) api.Rent {
	return api.Rent{Minutes: minutes, Price: price, Fields: fields}
}

func rents(l ...api.Rent) []api.Rent { return l }

// The limits, as numbers that the code need not agree with.
const (
	mostSalt  = 100000000
	mostWater = 1000000000
	mostRate  = 100000
	mostFlow  = 13000000
	cycle     = 23040
)

// example is the soil of the chapter's examples.
func example() api.Soil {
	return api.Soil{Salt: span(5000, 6000), Limit: 6000, Crop: 10000, Mineral: span(100, 200), Wash: span(900, 1000), Rise: span(0, 300)}
}

// changed is the example, but for what is changed.
func changed(how func(s *api.Soil)) api.Soil {
	s := example()
	how(&s)
	return s
}

// full is a soil with as much of everything as may be.
func full() api.Soil {
	return api.Soil{Salt: one(mostSalt), Limit: mostSalt, Crop: mostWater, Mineral: one(mostRate), Wash: one(mostRate), Rise: one(mostSalt)}
}

// plain is a net of so many fields, to which the water comes without any loss.
func plain(fields int) api.Net {
	n := api.Net{Canals: make([]api.Canal, fields), Days: 1}
	for i := range fields {
		n.Fields = append(n.Fields, i+1)
	}
	return n
}

// thirsty is a soil without salt that needs so many litres.
func thirsty(litres int) api.Soil { return api.Soil{Crop: litres} }

// hopeless is a soil that no water makes good.
func hopeless() api.Soil { return api.Soil{Rise: one(1)} }

func wantAfter(t *testing.T, s api.Soil, water api.Span, cycles int, e api.Errno, want ...api.Span) {
	t.Helper()
	if got, f := salt.After(s, water, cycles); !slices.Equal(got, want) || f != e {
		t.Errorf("After %v %v %v: %v %v, want %v %v", s, water, cycles, got, f, want, e)
	}
}

func wantNeed(t *testing.T, s api.Soil, e api.Errno, want int) {
	t.Helper()
	if got, f := salt.Need(s); got != want || f != e {
		t.Errorf("Need %v: %v %v, want %v %v", s, got, f, want, e)
	}
}

func wantWants(t *testing.T, n api.Net, flow api.Span, soils []api.Soil, e api.Errno, at int, want ...int) {
	t.Helper()
	if got, place, f := salt.Wants(n, flow, soils); !slices.Equal(got, want) || place != at || f != e {
		t.Errorf("Wants %v %v %v: %v %v %v, want %v %v %v", n, flow, soils, got, place, f, want, at, e)
	}
}

func wantPlan(t *testing.T, needs []int, l []api.Rent, cost int, want ...[]int) {
	t.Helper()
	if got, costs, e := salt.Plan(needs, l); !slices.EqualFunc(got, want, slices.Equal) || costs != cost || e != api.OK {
		t.Errorf("Plan %v %v: %v %v %v, want %v %v", needs, l, got, costs, e, want, cost)
	}
	if lack, e := salt.Lack(needs, l); len(lack) != 0 || e != api.ErrNone {
		t.Errorf("Lack %v %v: %v %v, want none", needs, l, lack, e)
	}
}

// wantLack wants that some fields lack minutes, so that there is no plan.
func wantLack(t *testing.T, needs []int, l []api.Rent, want ...int) {
	t.Helper()
	if got, e := salt.Lack(needs, l); !slices.Equal(got, want) || e != api.OK {
		t.Errorf("Lack %v %v: %v %v, want %v", needs, l, got, e, want)
	}
	if plan, cost, e := salt.Plan(needs, l); len(plan) != 0 || cost != 0 || e != api.ErrLack {
		t.Errorf("Plan %v %v: %v %v %v, want none", needs, l, plan, cost, e)
	}
}

func TestExamples(t *testing.T) {
	if e := salt.Check(example()); e != api.OK {
		t.Error(e)
	}
	wantAfter(t, example(), one(10000), 2, api.OK, span(6000, 8300), span(7000, 10600))
	wantAfter(t, example(), span(12000, 13000), 1, api.OK, span(3300, 6900))
	wantNeed(t, example(), api.OK, 13286)
	wantNeed(t, changed(func(s *api.Soil) { s.Wash = span(200, 1000) }), api.ErrNone, 0)
	needs := ints(30, 20, 10)
	wantPlan(t, needs, rents(rent(40, 5, 0, 1), rent(40, 3, 1, 2)), 240, ints(30, 0, 0), ints(0, 20, 10))
	wantLack(t, needs, rents(rent(25, 5, 0, 1), rent(40, 3, 1, 2)), 0)
}

// wrongSpans are no spans from 0 to a number.
func wrongSpans(most int) []api.Span {
	return []api.Span{
		span(1, 0), span(-1, 0), span(-1, -1), span(-1, most), span(0, most+1), span(most+1, most+1), span(most, most-1),
		span(math.MinInt, 0), span(0, math.MaxInt), span(math.MinInt, math.MaxInt), span(math.MaxInt, math.MinInt),
		span(math.MinInt, math.MinInt), span(math.MaxInt, math.MaxInt), span(math.MaxInt, 0),
	}
}

// wrongSoils are not valid, each for one reason.
func wrongSoils() []api.Soil {
	var wrong []api.Soil
	change := func(how func(s *api.Soil)) {
		for _, s := range []api.Soil{example(), full(), {}} {
			how(&s)
			wrong = append(wrong, s)
		}
	}
	for _, w := range wrongSpans(mostSalt) {
		change(func(s *api.Soil) { s.Salt = w })
		change(func(s *api.Soil) { s.Rise = w })
	}
	for _, w := range wrongSpans(mostRate) {
		change(func(s *api.Soil) { s.Mineral = w })
		change(func(s *api.Soil) { s.Wash = w })
	}
	for _, n := range ints(-1, mostSalt+1, math.MinInt, math.MaxInt) {
		change(func(s *api.Soil) { s.Limit = n })
	}
	for _, n := range ints(-1, mostWater+1, math.MinInt, math.MaxInt) {
		change(func(s *api.Soil) { s.Crop = n })
	}
	return wrong
}

func TestInvalidSoils(t *testing.T) {
	for _, s := range wrongSoils() {
		if e := salt.Check(s); e != api.ErrSoil {
			t.Errorf("Check %v: %v", s, e)
		}
		wantAfter(t, s, one(5), 1, api.ErrSoil)
		wantAfter(t, s, span(1, 0), -1, api.ErrSoil)
		wantNeed(t, s, api.ErrSoil, 0)
	}
	for _, s := range []api.Soil{
		{}, example(), full(), thirsty(mostWater),
		{Salt: span(0, mostSalt), Mineral: span(0, mostRate), Wash: span(0, mostRate), Rise: span(0, mostSalt)},
	} {
		if e := salt.Check(s); e != api.OK {
			t.Errorf("Check %v: %v", s, e)
		}
	}
}

func TestInvalidWater(t *testing.T) {
	for _, water := range wrongSpans(mostWater) {
		for _, cycles := range ints(0, 1, -1) {
			wantAfter(t, example(), water, cycles, api.ErrArg)
		}
	}
	for _, cycles := range ints(-1, 101, math.MinInt, math.MaxInt) {
		wantAfter(t, example(), one(0), cycles, api.ErrArg)
		wantAfter(t, example(), span(1, 0), cycles, api.ErrArg)
	}
}

func TestAfter(t *testing.T) {
	for _, x := range []struct {
		water, want api.Span
	}{
		{one(0), span(5000, 6300)},
		// Less than a gram, rounded down and up.
		{one(1), span(5000, 6301)}, {one(9), span(5000, 6302)}, {one(10), span(5001, 6302)},
		{one(9999), span(5999, 8300)}, {one(10000), span(6000, 8300)}, {one(10001), span(5999, 8300)}, {one(10002), span(5998, 8299)},
		// Most salt is left of the water that is Crop, least at one of the ends.
		{span(9000, 12000), span(4200, 8300)}, {span(0, 10500), span(5000, 8300)}, {span(0, 12000), span(4200, 8300)},
		{span(10000, 10500), span(5550, 8300)}, {span(9000, 10000), span(5900, 8300)}, {span(9000, 9999), span(5900, 8300)}, {span(10001, 10500), span(5550, 8300)},
		// Not below 0.
		{one(16665), span(1, 3635)}, {one(16666), span(0, 3634)}, {one(16667), span(0, 3634)}, {one(20000), span(0, 1300)}, {one(21857), span(0, 1)}, {one(21858), one(0)}, {one(mostWater), one(0)}, {span(0, mostWater), span(0, 8300)},
	} {
		wantAfter(t, example(), x.water, 1, api.OK, x.want)
	}
	// More water washes down less than it brings, or may do so.
	brings := changed(func(s *api.Soil) { s.Mineral, s.Wash = one(1000), one(400) })
	wantAfter(t, brings, span(9000, 20000), 1, api.OK, span(14000, 22300))
	wantAfter(t, brings, span(11000, 20000), 1, api.OK, span(15600, 22300))
	may := changed(func(s *api.Soil) { s.Mineral, s.Wash = span(100, 1000), span(400, 2000) })
	wantAfter(t, may, span(9000, 11000), 1, api.OK, span(4100, 16900))
	wantAfter(t, api.Soil{}, span(0, mostWater), 1, api.OK, one(0))
}

func TestCycles(t *testing.T) {
	wantAfter(t, example(), one(10000), 0, api.OK)
	wantAfter(t, example(), one(10000), 1, api.OK, span(6000, 8300))
	wantAfter(t, example(), span(12000, 13000), 3, api.OK, span(3300, 6900), span(1600, 7800), span(0, 8700))
	// Each cycle goes on from what was told, not from what is true.
	tiny := api.Soil{Crop: 1, Mineral: one(1)}
	wantAfter(t, tiny, one(1), 3, api.OK, span(0, 1), span(0, 2), span(0, 3))
	// What was below 0 is 0 for the next one.
	wantAfter(t, api.Soil{Salt: one(10), Wash: one(1000), Rise: span(0, 15)}, one(12), 3, api.OK, span(0, 13), span(0, 16), span(0, 19))
	hundred, e := salt.After(tiny, one(1), 100)
	if len(hundred) != 100 || hundred[99] != span(0, 100) || e != api.OK {
		t.Error(hundred, e)
	}
	// It goes above the greatest salt.
	most, e := salt.After(full(), one(mostWater), 100)
	if len(most) != 100 || most[0] != one(100200000000) || most[99] != one(10010100000000) || e != api.OK {
		t.Error(most, e)
	}
	washed := full()
	washed.Crop, washed.Mineral = 0, span(0, mostRate)
	wantAfter(t, washed, one(mostWater), 2, api.OK, span(0, 200000000), span(0, 300000000))
}

func TestNeed(t *testing.T) {
	for _, x := range []struct {
		change func(s *api.Soil)
		want   int
	}{
		{func(s *api.Soil) { s.Limit = 8300 }, 10000},
		{func(s *api.Soil) { s.Limit = 8299 }, 10002},
		{func(s *api.Soil) { s.Limit = 0 }, 21858},
		{func(s *api.Soil) { s.Limit = mostSalt }, 10000},
		// What is known worse tells, and what is known better does not.
		{func(s *api.Soil) { s.Salt.Lo, s.Mineral.Lo, s.Wash.Hi, s.Rise.Lo = 6000, 200, 900, 300 }, 13286},
		{func(s *api.Soil) { s.Salt.Lo, s.Mineral.Lo, s.Wash.Hi, s.Rise.Lo = 0, 0, mostRate, 0 }, 13286},
		{func(s *api.Soil) { s.Salt.Hi = 6007 }, 13296},
		{func(s *api.Soil) { s.Rise.Hi = 307 }, 13296},
		{func(s *api.Soil) { s.Mineral.Hi = 201 }, 13305},
		{func(s *api.Soil) { s.Wash.Lo = 901 }, 13282},
		{func(s *api.Soil) { s.Crop = 10001 }, 13287},
		// More water washes down less than it brings, but Crop is enough.
		{func(s *api.Soil) { s.Mineral, s.Limit = one(2000), 26300 }, 10000},
	} {
		wantNeed(t, changed(x.change), api.OK, x.want)
	}
	for _, x := range []struct {
		soil api.Soil
		want int
	}{
		{api.Soil{}, 0}, {thirsty(7), 7}, {thirsty(mostWater), mostWater}, {api.Soil{Limit: mostSalt, Mineral: one(mostRate)}, 0},
		{api.Soil{Salt: one(6), Limit: 6, Mineral: one(9), Wash: one(9)}, 0},
		{api.Soil{Salt: one(7), Limit: 6, Mineral: one(9), Wash: one(12)}, 334}, {api.Soil{Salt: one(9), Limit: 6, Mineral: one(9), Wash: one(12)}, 1000},
		{api.Soil{Salt: one(1000000), Wash: one(1)}, mostWater}, {api.Soil{Salt: one(999999), Wash: one(1)}, mostWater - 1000},
		{api.Soil{Salt: one(1), Crop: mostWater - 1, Wash: one(1000)}, mostWater}, {api.Soil{Salt: one(mostSalt), Wash: one(mostRate)}, 1000000},
		{api.Soil{Limit: mostSalt, Crop: mostWater, Mineral: one(100)}, mostWater},
	} {
		wantNeed(t, x.soil, api.OK, x.want)
	}
}

func TestNoNeed(t *testing.T) {
	for _, s := range []api.Soil{
		full(), hopeless(),
		changed(func(s *api.Soil) { s.Wash.Lo = 200 }), changed(func(s *api.Soil) { s.Wash.Lo = 0 }), changed(func(s *api.Soil) { s.Mineral.Hi = 900 }), changed(func(s *api.Soil) { s.Mineral.Hi = mostRate }),
		{Salt: one(1000001), Wash: one(1)}, {Salt: one(1), Crop: mostWater, Wash: one(mostRate)}, {Salt: one(2), Crop: mostWater - 1, Wash: one(1000)},
		{Limit: mostSalt, Crop: mostWater, Mineral: one(101), Wash: one(mostRate)}, {Salt: one(7), Limit: 6, Mineral: one(9), Wash: one(9)}, {Salt: one(7), Limit: 6, Mineral: one(9), Wash: one(8)},
	} {
		wantNeed(t, s, api.ErrNone, 0)
	}
}

func TestWants(t *testing.T) {
	// 10 litres a minute, and up to 12 more.
	wantWants(t, plain(3), span(10, 22), []api.Soil{example(), thirsty(14400), {}}, api.OK, 0, 1329, 1440, 0)
	wantWants(t, plain(2), span(10, 22), []api.Soil{thirsty(1), thirsty(11)}, api.OK, 0, 1, 2)
	wantWants(t, plain(0), span(0, mostFlow), nil, api.OK, 0)
	wantWants(t, plain(0), span(0, mostFlow), []api.Soil{}, api.OK, 0)
	wantWants(t, plain(2), one(0), []api.Soil{{}, {}}, api.OK, 0, 0, 0)
	wantWants(t, plain(1), one(mostFlow), []api.Soil{thirsty(mostWater)}, api.OK, 0, 77)
	// The net of the chapter before.
	n := api.Net{
		Canals: []api.Canal{{From: 0, Seep: span(100, 200), Fill: span(50, 60)}, {From: 1, Fill: one(10)}, {From: 1, Seep: one(500)}},
		Fields: ints(2, 3),
		Dry:    30,
		Days:   1,
	}
	wantWants(t, n, span(10, 12), []api.Soil{thirsty(422), thirsty(423)}, api.OK, 0, 60, 112)
	n.Fields = ints(3, 2)
	wantWants(t, n, span(10, 12), []api.Soil{thirsty(422), thirsty(423)}, api.OK, 0, 112, 61)
	// The most fields that a net has.
	var soils []api.Soil
	for i := range 12 {
		soils = append(soils, thirsty(i*7))
	}
	wantWants(t, plain(12), one(7), soils, api.OK, 0, 0, 1, 2, 3, 4, 5, 6, 7, 8, 9, 10, 11)
}

func TestNoWants(t *testing.T) {
	dry := thirsty(14401)
	for _, x := range []struct {
		soils []api.Soil
		at    int
	}{
		{[]api.Soil{{}, hopeless(), {}}, 1}, {[]api.Soil{{}, dry, {}}, 1}, {[]api.Soil{{}, {}, dry}, 2}, {[]api.Soil{dry, {}, {}}, 0}, {[]api.Soil{hopeless(), {}, {}}, 0},
		{[]api.Soil{{}, hopeless(), dry}, 1}, {[]api.Soil{{}, dry, hopeless()}, 1}, {[]api.Soil{dry, dry, hopeless()}, 0}, {[]api.Soil{hopeless(), dry, dry}, 0},
	} {
		wantWants(t, plain(3), span(10, 22), x.soils, api.ErrNone, x.at)
	}
	wantWants(t, plain(1), span(0, mostFlow), []api.Soil{thirsty(1)}, api.ErrNone, 0)
	wantWants(t, plain(2), one(mostFlow), []api.Soil{{}, full()}, api.ErrNone, 1)
}

func TestInvalidWants(t *testing.T) {
	good, none := []api.Soil{{}, {}}, []api.Soil{{}, hopeless()}
	bad := api.Soil{Limit: -1}
	wrong := [][]api.Soil{nil, {}, {{}}, {{}, {}, {}}, {{}, bad}, {bad, {}}, {{}, hopeless(), {}}, {hopeless()}, {hopeless(), bad}, {thirsty(mostWater), bad}, make([]api.Soil, 1000)}
	for _, soils := range wrong {
		wantWants(t, plain(2), one(10), soils, api.ErrSoils, 0)
	}
	for _, s := range wrongSoils() {
		wantWants(t, plain(2), one(10), []api.Soil{{}, s}, api.ErrSoils, 0)
	}
	wantWants(t, plain(0), one(10), good, api.ErrSoils, 0)
	for _, soils := range append(wrong, good, none) {
		for _, flow := range wrongSpans(mostFlow) {
			wantWants(t, plain(2), flow, soils, api.ErrFlow, 0)
			wantWants(t, plain(0), flow, soils, api.ErrFlow, 0)
		}
		for _, flow := range []api.Span{one(10), span(1, 0), span(0, mostFlow+1)} {
			for _, days := range ints(0, 17, -1, math.MinInt, math.MaxInt) {
				n := plain(2)
				n.Days = days
				wantWants(t, n, flow, soils, api.ErrNet, 0)
			}
			wantWants(t, api.Net{Fields: ints(0, 1), Days: 1}, flow, soils, api.ErrNet, 0)
			wantWants(t, api.Net{}, flow, soils, api.ErrNet, 0)
		}
	}
	for _, flow := range []api.Span{one(0), span(0, mostFlow), one(mostFlow)} {
		wantWants(t, plain(2), flow, good, api.OK, 0, 0, 0)
	}
}

func TestPlan(t *testing.T) {
	for _, x := range []struct {
		needs []int
		rents []api.Rent
		cost  int
		want  [][]int
	}{
		// Nothing is needed, or may be had.
		{nil, nil, 0, nil}, {ints(), rents(), 0, nil}, {ints(0, 0), nil, 0, nil},
		{nil, rents(rent(5, 5)), 0, lists(nil)}, {nil, rents(rent(5, 5), rent(0, 0)), 0, lists(nil, nil)},
		{ints(0, 0), rents(rent(5, 5, 0, 1)), 0, lists(ints(0, 0))}, {ints(0), rents(rent(5, 0, 0)), 0, lists(ints(0))},
		// Rents of no fields, and of no minutes.
		{ints(3), rents(rent(5, 1), rent(0, 1, 0), rent(5, 2, 0)), 6, lists(ints(0), ints(0), ints(3))}, {ints(0), rents(rent(5, 1)), 0, lists(ints(0))},
		// As many as are needed, and of the cheaper one first.
		{ints(12), rents(rent(12, 5, 0)), 60, lists(ints(12))},
		{ints(12), rents(rent(10, 5, 0), rent(10, 3, 0)), 40, lists(ints(2), ints(10))},
		{ints(12), rents(rent(10, 3, 0), rent(10, 5, 0)), 40, lists(ints(10), ints(2))},
		{ints(12), rents(rent(5, 9, 0), rent(10, 0, 0), rent(1, 8, 0)), 17, lists(ints(1), ints(10), ints(1))},
		// What is cheaper is needed where nothing else may be had.
		{ints(5, 5), rents(rent(5, 1, 0, 1), rent(9, 4, 0)), 25, lists(ints(0, 5), ints(5, 0))},
		{ints(5, 5), rents(rent(9, 4, 1), rent(5, 1, 0, 1)), 25, lists(ints(0, 5), ints(5, 0))},
		{ints(5, 5), rents(rent(7, 1, 0, 1), rent(9, 4, 0)), 19, lists(ints(2, 5), ints(3, 0))},
		// From one to the other: the cheap one goes to 0, whose own goes to 1, whose own is dear.
		{ints(4, 4, 4), rents(rent(4, 1, 0), rent(4, 2, 0, 1), rent(4, 3, 1, 2), rent(4, 9, 2)), 24, lists(ints(4, 0, 0), ints(0, 4, 0), ints(0, 0, 4), ints(0, 0, 0))},
		{ints(4, 4, 4), rents(rent(3, 1, 0), rent(4, 2, 0, 1), rent(4, 3, 1, 2), rent(4, 9, 2)), 32, lists(ints(3, 0, 0), ints(1, 3, 0), ints(0, 1, 3), ints(0, 0, 1))},
	} {
		wantPlan(t, x.needs, x.rents, x.cost, x.want...)
	}
}

func TestPlansOfOneCost(t *testing.T) {
	for _, x := range []struct {
		needs []int
		rents []api.Rent
		cost  int
		want  [][]int
	}{
		{ints(10), rents(rent(10, 3, 0), rent(10, 3, 0)), 30, lists(ints(10), ints(0))},
		{ints(10), rents(rent(6, 3, 0), rent(10, 3, 0)), 30, lists(ints(6), ints(4))},
		{ints(10), rents(rent(6, 0, 0), rent(10, 0, 0)), 0, lists(ints(6), ints(4))},
		{ints(5, 5), rents(rent(5, 3, 0, 1), rent(5, 3, 0, 1)), 30, lists(ints(5, 0), ints(0, 5))},
		{ints(5, 5), rents(rent(7, 3, 0, 1), rent(7, 3, 0, 1)), 30, lists(ints(5, 2), ints(0, 3))},
		{ints(5, 5), rents(rent(7, 3, 0, 1), rent(7, 1, 0, 1)), 16, lists(ints(3, 0), ints(2, 5))},
		// A dearer rent is as full in all of them.
		{ints(5, 5), rents(rent(7, 1, 0, 1), rent(7, 3, 0, 1)), 16, lists(ints(5, 2), ints(0, 3))},
		// The first number is greatest, even if more were had of the rent with a lesser one; but none is that leaves another field without.
		{ints(5, 3), rents(rent(5, 2, 0, 1), rent(5, 2, 0)), 16, lists(ints(2, 3), ints(3, 0))},
		{ints(5, 6), rents(rent(6, 2, 0, 1), rent(6, 2, 0, 1)), 22, lists(ints(5, 1), ints(0, 5))},
		{ints(3, 3, 3), rents(rent(4, 2, 0, 1), rent(4, 2, 1, 2), rent(4, 2, 0, 2)), 18, lists(ints(3, 1, 0), ints(0, 2, 2), ints(0, 0, 1))},
		// More of the first rent, were the second one not cheaper.
		{ints(4, 4), rents(rent(8, 2, 0, 1), rent(4, 1, 1)), 12, lists(ints(4, 0), ints(0, 4))},
		{ints(4, 4), rents(rent(8, 2, 0, 1), rent(4, 2, 1)), 16, lists(ints(4, 4), ints(0, 0))},
	} {
		wantPlan(t, x.needs, x.rents, x.cost, x.want...)
	}
}

func TestLack(t *testing.T) {
	for _, x := range []struct {
		needs []int
		rents []api.Rent
		want  []int
	}{
		{ints(1), nil, ints(0)}, {ints(0, 1), rents(), ints(1)}, {ints(0, 0, cycle), rents(rent(cycle, 0, 0, 1)), ints(2)},
		{ints(6), rents(rent(5, 0, 0)), ints(0)}, {ints(6), rents(rent(5, 0, 0), rent(9, 0)), ints(0)}, {ints(6), rents(rent(5, 0, 0), rent(0, 0, 0)), ints(0)},
		// Together only.
		{ints(10, 10), rents(rent(19, 1, 0, 1)), ints(0, 1)}, {ints(10, 0, 10), rents(rent(19, 1, 0, 1, 2)), ints(0, 2)},
		{ints(10, 10, 10), rents(rent(29, 1, 0, 1, 2)), ints(0, 1, 2)}, {ints(10, 10, 10), rents(rent(12, 1, 0, 1), rent(12, 1, 1, 2), rent(5, 1, 0, 2)), ints(0, 1, 2)},
		{ints(10, 10, 10), rents(rent(12, 1, 0, 1), rent(12, 1, 1, 2), rent(12, 1)), ints(0, 1, 2)},
		{ints(10, 10, 10), rents(rent(19, 1, 1, 2), rent(40, 1, 0)), ints(1, 2)},
		// Fewest, and of several ones the first.
		{ints(6, 6, 6), rents(rent(5, 1, 2), rent(11, 1, 0, 1)), ints(2)}, {ints(6, 6), rents(rent(5, 1, 0), rent(5, 1, 1)), ints(0)},
		{ints(6, 6, 6), rents(rent(10, 1, 0, 1, 2)), ints(0, 1)},
		{ints(6, 6, 6, 6), rents(rent(10, 1, 0, 3), rent(10, 1, 1, 2)), ints(0, 3)}, {ints(6, 6, 6, 6), rents(rent(10, 1, 1, 2), rent(10, 1, 0, 3)), ints(0, 3)},
		{ints(6, 6, 6, 6, 6, 6), rents(rent(16, 1, 0, 4, 5), rent(16, 1, 1, 2, 3)), ints(0, 4, 5)},
		{ints(5, 5, 5, 5, 5, 5, 5, 5), rents(rent(39, 1, 0, 1, 2, 3, 4, 5, 6, 7)), ints(0, 1, 2, 3, 4, 5, 6, 7)},
		// Of a rent only as many minutes are as all its fields lack.
		{ints(8, 8), rents(rent(5, 1, 0), rent(10, 1, 0, 1)), ints(0, 1)}, {ints(8, 0), rents(rent(5, 1, 0), rent(2, 1, 0, 1)), ints(0)},
	} {
		wantLack(t, x.needs, x.rents, x.want...)
	}
}

func TestInvalidRents(t *testing.T) {
	good, goodRents := ints(30, 20, 10), rents(rent(40, 5, 0, 1), rent(40, 3, 1, 2))
	want := func(needs []int, l []api.Rent) {
		t.Helper()
		if plan, cost, e := salt.Plan(needs, l); len(plan) != 0 || cost != 0 || e != api.ErrRents {
			t.Errorf("Plan %v %v: %v %v %v", needs, l, plan, cost, e)
		}
		if lack, e := salt.Lack(needs, l); len(lack) != 0 || e != api.ErrRents {
			t.Errorf("Lack %v %v: %v %v", needs, l, lack, e)
		}
	}
	for _, n := range ints(-1, cycle+1, math.MinInt, math.MaxInt) {
		for at := range good {
			needs := slices.Clone(good)
			needs[at] = n
			want(needs, goodRents)
			want(needs, nil)
		}
		want(good, rents(rent(n, 5, 0)))
		want(good, append(goodRents, rent(n, 5, 0)))
		want(ints(cycle, cycle), rents(rent(n, 0)))
		want(good, rents(rent(1, 5, 0), rent(1, 5, n)))
		want(good, rents(rent(1, 5, n), rent(1, 5, 1)))
		want(good, rents(rent(1, 5, 0, n)))
		want(good, rents(rent(1, 5, n, 1)))
		want(nil, rents(rent(1, 5, n)))
	}
	for _, n := range ints(-1, 100001, math.MinInt, math.MaxInt) {
		want(good, rents(rent(1, n, 0)))
		want(good, append(goodRents, rent(1, n, 0)))
	}
	for _, fields := range [][]int{ints(3), ints(0, 3), ints(0, 0), ints(1, 0), ints(0, 1, 1), ints(0, 2, 1), ints(2, 1, 0), ints(0, 1, 2, 3), ints(8), make([]int, 1000)} {
		want(good, rents(rent(1, 5, fields...)))
		want(good, append(goodRents, rent(0, 0, fields...)))
	}
	want(nil, rents(rent(1, 1, 0)))
	// Together they are more than a cycle has.
	want(good, rents(rent(cycle, 5, 0, 1, 2), rent(1, 5)))
	want(good, rents(rent(1, 5, 0, 1, 2), rent(cycle, 5)))
	want(good, slices.Repeat(rents(rent(2881, 5, 0, 1, 2)), 8))
	want(good, rents(rent(math.MaxInt, 5), rent(math.MaxInt, 5), rent(2, 5)))
	want(good, rents(rent(cycle+1, 5, 0), rent(-1, 5, 0)))
	// Too many.
	want(make([]int, 9), nil)
	want(make([]int, 9), rents(rent(1, 1, 8)))
	want(make([]int, 1000), goodRents)
	want(nil, make([]api.Rent, 9))
	want(good, slices.Repeat(rents(rent(100, 1, 0, 1, 2)), 9))
	want(good, make([]api.Rent, 1000))
	// Although others lack minutes.
	want(ints(5, cycle+1), nil)
}

func TestLimits(t *testing.T) {
	wantPlan(t, make([]int, 8), make([]api.Rent, 8), 0, slices.Repeat(lists(make([]int, 8)), 8)...)
	eight := ints(0, 1, 2, 3, 4, 5, 6, 7)
	wantPlan(t, slices.Repeat(ints(2880), 8), rents(rent(cycle, 100000, eight...)), 2304000000, slices.Repeat(ints(2880), 8))
	wantLack(t, slices.Repeat(ints(cycle), 8), rents(rent(cycle, 100000, eight...)), 0, 1)
	wantPlan(t, ints(cycle), rents(rent(cycle, 100000, 0)), 2304000000, ints(cycle))
	// Each rent fills the fields that are not full yet.
	var want [][]int
	for i := range 8 {
		row := make([]int, 8)
		row[i] = 2880
		want = append(want, row)
	}
	wantPlan(t, slices.Repeat(ints(2880), 8), slices.Repeat(rents(rent(2880, 100000, eight...)), 8), 2304000000, want...)
	wantLack(t, append(slices.Repeat(ints(2880), 7), 2881), slices.Repeat(rents(rent(2880, 100000, eight...)), 8), eight...)
	if m, at, e := salt.Wants(plain(12), one(mostFlow), slices.Repeat([]api.Soil{thirsty(mostWater)}, 12)); !slices.Equal(m, slices.Repeat(ints(77), 12)) || at != 0 || e != api.OK {
		t.Error(m, at, e)
	}
	// What a net needs in the longest cycle.
	n := plain(1)
	n.Days = 16
	wantWants(t, n, one(1), []api.Soil{thirsty(cycle)}, api.OK, 0, cycle)
	wantWants(t, n, one(1), []api.Soil{thirsty(cycle + 1)}, api.ErrNone, 0)
	if m, e := channel.Minutes(n, one(1), 0, cycle); m != cycle || e != api.OK {
		t.Error(m, e)
	}
}
