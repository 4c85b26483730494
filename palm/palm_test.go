package palm_test

import (
	"math"
	"slices"
	"testing"

	"aflaj/api"
	"aflaj/palm"
)

func span(lo, hi int) api.Span { return api.Span{Lo: lo, Hi: hi} }

func ints(l ...int) []int { return l }

// lists are lists of hours.
func lists(l ...[]int) [][]int { return l }

// The limits, and what palms are told to be, as numbers that the code need not agree with.
const (
	mostId   = 9999
	mostDay  = 100000
	mostHour = 1000000
	mostOpen = 500
	open     = 0
	female   = 1
	male     = 2
)

// tree is a palm without a mother, planted on the day 0.
func tree(id int, sex uint8, sort int) api.Palm {
	return api.Palm{Id: id, Mother: -1, Sex: sex, Sort: sort}
}

// shoot is an offshoot of a palm that was planted on the day 0 or some generations before.
func shoot(id, mother, planted int, sex uint8, sort int) api.Palm {
	return api.Palm{Id: id, Mother: mother, Planted: planted, Sex: sex, Sort: sort}
}

func palms(l ...api.Palm) []api.Palm { return l }

// grove is the palms of the chapter's examples.
func grove() []api.Palm {
	return palms(tree(1, female, 0), shoot(2, 1, 1200, open, 7), tree(5, male, 0))
}

func lots(l ...api.Lot) []api.Lot { return l }

// lot is pollen of the palm 5.
func lot(units, from, to int) api.Lot { return api.Lot{Palm: 5, Units: units, From: from, To: to} }

// work is one with spathes of the palm 1.
func work(hours []int, l []api.Lot, cracks ...api.Span) api.Work {
	w := api.Work{Day: 4000, Hours: hours, Lots: l, Open: 30}
	for _, c := range cracks {
		w.Spathes = append(w.Spathes, api.Spathe{Palm: 1, Cracks: c})
	}
	return w
}

// takes is when a spathe comes out that can be pollinated from an hour to another one, both included.
func takes(from, to int) api.Span { return span(to-29, from) }

// hours are so many hours from 100 on.
func hours(many int) []int {
	var l []int
	for i := range many {
		l = append(l, 100+i)
	}
	return l
}

// example is the work of the chapter's examples.
func example() api.Work {
	w := work(ints(15, 22, 45, 60), lots(lot(2, 0, 50)), span(10, 20), span(12, 14), span(25, 40))
	w.Spathes[2].Palm = 2
	return w
}

func dust(spathe, hour, lot int) api.Dust { return api.Dust{Spathe: spathe, Hour: hour, Lot: lot} }

func dusts(l ...api.Dust) []api.Dust { return l }

func cover(spathes, hours, lots []int) api.Cover {
	return api.Cover{Spathes: spathes, Hours: hours, Lots: lots}
}

func isCover(a, b api.Cover) bool {
	return slices.Equal(a.Spathes, b.Spathes) && slices.Equal(a.Hours, b.Hours) && slices.Equal(a.Lots, b.Lots)
}

func wantKnown(t *testing.T, l []api.Palm, want ...api.Palm) {
	t.Helper()
	if got, at, e := palm.Known(l); !slices.Equal(got, want) || at != 0 || e != api.OK {
		t.Errorf("Known %v: %v %v %v, want %v", l, got, at, e, want)
	}
}

func wantClones(t *testing.T, l []api.Palm, id int, e api.Errno, want ...int) {
	t.Helper()
	if got, f := palm.Clones(l, id); !slices.Equal(got, want) || f != e {
		t.Errorf("Clones %v %v: %v %v, want %v %v", l, id, got, f, want, e)
	}
}

func wantSlots(t *testing.T, l []api.Palm, w api.Work, want ...[]int) {
	t.Helper()
	if got, e := palm.Slots(l, w); !slices.EqualFunc(got, want, slices.Equal) || e != api.OK {
		t.Errorf("Slots %v %v: %v %v, want %v", l, w, got, e, want)
	}
}

func wantMost(t *testing.T, l []api.Palm, w api.Work, want ...api.Dust) {
	t.Helper()
	if got, e := palm.Most(l, w); !slices.Equal(got, want) || e != api.OK {
		t.Errorf("Most %v %v: %v %v, want %v", l, w, got, e, want)
	}
}

// wantProof wants a cover that proves so many dusts.
func wantProof(t *testing.T, l []api.Palm, w api.Work, want api.Cover, many int) {
	t.Helper()
	got, e := palm.Proof(l, w)
	if !isCover(got, want) || e != api.OK {
		t.Errorf("Proof %v %v: %v %v, want %v", l, w, got, e, want)
	}
	wantProves(t, l, w, got, api.OK, many)
}

func wantProves(t *testing.T, l []api.Palm, w api.Work, c api.Cover, e api.Errno, want int) {
	t.Helper()
	if got, f := palm.Proves(l, w, c); got != want || f != e {
		t.Errorf("Proves %v %v %v: %v %v, want %v %v", l, w, c, got, f, want, e)
	}
}

// wantNoWork wants that all functions of works tell an error, and nothing else, whatever the cover is.
func wantNoWork(t *testing.T, l []api.Palm, w api.Work, want api.Errno) {
	t.Helper()
	slots, e := palm.Slots(l, w)
	plan, f := palm.Most(l, w)
	proof, g := palm.Proof(l, w)
	if len(slots) != 0 || len(plan) != 0 || !isCover(proof, api.Cover{}) || e != want || f != want || g != want {
		t.Errorf("%v %v: %v %v %v %v %v %v, want %v", l, w, slots, e, plan, f, proof, g, want)
	}
	for _, c := range []api.Cover{{}, cover(ints(-1), ints(99), ints(1, 1)), cover(ints(0), ints(0), ints(0))} {
		wantProves(t, l, w, c, want, 0)
	}
}

func TestExamples(t *testing.T) {
	wantKnown(t, grove(), tree(1, female, 7), shoot(2, 1, 1200, female, 7), tree(5, male, 0))
	wantClones(t, grove(), 2, api.OK, 1, 2)
	wantSlots(t, grove(), example(), ints(1), ints(0, 1), ints(2))
	wantMost(t, grove(), example(), dust(0, 1, 0), dust(1, 0, 0))
	wantProof(t, grove(), example(), cover(nil, nil, ints(0)), 2)
	wantProves(t, grove(), example(), cover(ints(0, 1, 2), nil, nil), api.OK, 3)
	wantProves(t, grove(), example(), cover(nil, ints(0), nil), api.ErrCover, 0)
}

// row returns so many palms, each an offshoot of the one before.
func row(many int) []api.Palm {
	l := palms(tree(0, open, 0))
	for i := 1; i < many; i++ {
		l = append(l, shoot(i, i-1, 1000*i, open, 0))
	}
	return l
}

func TestPalms(t *testing.T) {
	for _, l := range [][]api.Palm{
		nil, {}, grove(), row(24),
		palms(tree(0, open, 0)), palms(tree(mostId, male, 99)),
		palms(shoot(4, -1, mostDay, female, 1)), palms(tree(0, open, 0), shoot(1, 0, mostDay, open, 0)),
		// Just old enough, and before its mother in the list.
		palms(tree(1, open, 0), shoot(2, 1, 1000, open, 0)), palms(shoot(1, 2, 1000, open, 0), tree(2, open, 0)),
		palms(shoot(3, 7, mostDay, open, 0), shoot(7, -1, mostDay-1000, open, 0)),
	} {
		if e := palm.Check(l); e != api.OK {
			t.Errorf("Check %v: %v", l, e)
		}
		wantKnown(t, l, known(l)...)
		wantNothingToDo(t, l)
	}
	wantKnown(t, nil)
	wantKnown(t, palms())
	for _, id := range ints(0, 1, -1, math.MinInt, math.MaxInt) {
		wantClones(t, nil, id, api.ErrNone)
		wantClones(t, palms(), id, api.ErrNone)
	}
}

// wantNothingToDo wants what is told of a work without anything.
func wantNothingToDo(t *testing.T, l []api.Palm) {
	t.Helper()
	for _, w := range []api.Work{{Open: 1}, {Spathes: []api.Spathe{}, Hours: ints(), Lots: lots(), Open: 1, Day: 7}} {
		wantSlots(t, l, w)
		wantMost(t, l, w)
		wantProof(t, l, w, api.Cover{}, 0)
		wantProves(t, l, w, cover(ints(), ints(), ints()), api.OK, 0)
	}
}

// wrongPalms are not valid, each for one reason.
func wrongPalms() [][]api.Palm {
	wrong := [][]api.Palm{
		row(25), make([]api.Palm, 1000), slices.Repeat(grove(), 9),
		// Ids that do not increase.
		palms(tree(1, open, 0), tree(1, open, 0)), palms(tree(5, open, 0), tree(2, open, 0)), palms(tree(1, open, 0), tree(3, open, 0), tree(2, open, 0)), palms(tree(0, open, 0), tree(0, open, 0)),
		// No mother in the list.
		palms(shoot(2, 1, 1000, open, 0)), palms(tree(1, open, 0), shoot(2, 3, 1000, open, 0)), {{Id: 5}},
		// Its own mother, and the mother of its mother.
		palms(shoot(2, 2, 1000, open, 0)), palms(shoot(0, 0, 0, open, 0)), palms(tree(1, open, 0), shoot(2, 2, mostDay, open, 0)),
		palms(shoot(1, 2, 1000, open, 0), shoot(2, 1, 1000, open, 0)), palms(shoot(1, 2, 3000, open, 0), shoot(2, 3, 2000, open, 0), shoot(3, 1, 1000, open, 0)),
		// Too early for an offshoot.
		palms(tree(1, open, 0), shoot(2, 1, 999, open, 0)), palms(tree(1, open, 0), shoot(2, 1, 0, open, 0)), palms(shoot(1, 2, 999, open, 0), tree(2, open, 0)),
		palms(shoot(1, -1, mostDay, open, 0), shoot(2, 1, mostDay, open, 0)), palms(shoot(1, -1, mostDay-999, open, 0), shoot(2, 1, mostDay, open, 0)),
		palms(shoot(1, -1, mostDay-999, open, 0), shoot(2, 1, mostDay+1, open, 0)),
	}
	change := func(how func(p *api.Palm)) {
		for i := range grove() {
			l := grove()
			how(&l[i])
			wrong = append(wrong, l)
		}
		alone := tree(1, open, 0)
		how(&alone)
		wrong = append(wrong, palms(alone))
	}
	for _, n := range ints(-1, mostId+1, -mostId, math.MinInt, math.MaxInt) {
		change(func(p *api.Palm) { p.Id = n })
	}
	for _, n := range ints(-2, 3, mostId, mostId+1, math.MinInt, math.MaxInt) {
		change(func(p *api.Palm) { p.Mother = n })
		change(func(p *api.Palm) { p.Mother, p.Planted = n, mostDay })
	}
	for _, n := range ints(-1, mostDay+1, math.MinInt, math.MinInt+999, math.MaxInt) {
		change(func(p *api.Palm) { p.Planted = n })
	}
	for _, n := range []uint8{3, 4, 127, 128, 255} {
		change(func(p *api.Palm) { p.Sex = n })
	}
	for _, n := range ints(-1, 100, math.MinInt, math.MaxInt) {
		change(func(p *api.Palm) { p.Sort = n })
	}
	return wrong
}

func TestInvalidPalms(t *testing.T) {
	for _, l := range wrongPalms() {
		if e := palm.Check(l); e != api.ErrPalms {
			t.Errorf("Check %v: %v", l, e)
		}
		if known, at, e := palm.Known(l); len(known) != 0 || at != 0 || e != api.ErrPalms {
			t.Errorf("Known %v: %v %v %v", l, known, at, e)
		}
		for _, id := range ints(1, 2, 77, -1, math.MaxInt) {
			wantClones(t, l, id, api.ErrPalms)
		}
		for _, w := range []api.Work{{}, {Open: 1}, example(), {Day: -1}} {
			wantNoWork(t, l, w, api.ErrPalms)
		}
	}
	// Also if others contradict each other.
	wantNoWork(t, palms(tree(1, female, 0), shoot(2, 1, 1000, male, 0), tree(3, 3, 0)), example(), api.ErrPalms)
}

func TestKnown(t *testing.T) {
	for _, x := range []struct{ l, want []api.Palm }{
		{palms(tree(3, open, 0)), palms(tree(3, open, 0))},
		{palms(tree(3, male, 99)), palms(tree(3, male, 99))},
		// What is told of a mother, of an offshoot, and of an offshoot of the same mother.
		{palms(tree(1, female, 4), shoot(2, 1, 1000, open, 0)), palms(tree(1, female, 4), shoot(2, 1, 1000, female, 4))},
		{palms(tree(1, open, 0), shoot(2, 1, 1000, male, 4)), palms(tree(1, male, 4), shoot(2, 1, 1000, male, 4))},
		{palms(tree(1, open, 0), shoot(2, 1, 1000, open, 4), shoot(3, 1, 1000, male, 0)), palms(tree(1, male, 4), shoot(2, 1, 1000, male, 4), shoot(3, 1, 1000, male, 4))},
		{palms(shoot(1, 3, 1000, female, 0), shoot(2, 3, 1000, open, 0), tree(3, open, 0)), palms(shoot(1, 3, 1000, female, 0), shoot(2, 3, 1000, female, 0), tree(3, female, 0))},
		// Over several steps, down and up again.
		{
			palms(shoot(1, 4, 2000, female, 0), shoot(2, 5, 2000, open, 8), tree(3, open, 0), shoot(4, 3, 1000, open, 0), shoot(5, 3, 1000, open, 0)),
			palms(shoot(1, 4, 2000, female, 8), shoot(2, 5, 2000, female, 8), tree(3, female, 8), shoot(4, 3, 1000, female, 8), shoot(5, 3, 1000, female, 8)),
		},
		// Palms that are no clones are not alike.
		{palms(tree(1, female, 4), tree(2, male, 5), tree(3, open, 0)), palms(tree(1, female, 4), tree(2, male, 5), tree(3, open, 0))},
		{palms(tree(1, female, 0), tree(2, open, 5), shoot(3, 1, 1000, open, 0), shoot(4, 2, 1000, open, 0)), palms(tree(1, female, 0), tree(2, open, 5), shoot(3, 1, 1000, female, 0), shoot(4, 2, 1000, open, 5))},
		// All say the same.
		{palms(tree(1, female, 4), shoot(2, 1, 1000, female, 4)), palms(tree(1, female, 4), shoot(2, 1, 1000, female, 4))},
	} {
		wantKnown(t, x.l, x.want...)
	}
}

func TestContradictions(t *testing.T) {
	for _, x := range []struct {
		l  []api.Palm
		at int
	}{
		{palms(tree(1, female, 0), shoot(2, 1, 1000, male, 0)), 1},
		{palms(tree(1, male, 0), shoot(2, 1, 1000, female, 0)), 1},
		{palms(tree(1, open, 3), shoot(2, 1, 1000, open, 4)), 1},
		{palms(tree(1, female, 3), shoot(2, 1, 1000, female, 4)), 1},
		{palms(tree(1, female, 3), shoot(2, 1, 1000, male, 3)), 1},
		// A mother that comes later, and clones by one that comes later still.
		{palms(shoot(1, 9, 1000, female, 0), tree(9, male, 0)), 1},
		{palms(shoot(1, 9, 1000, female, 0), shoot(2, 9, 1000, male, 0), tree(9, open, 0)), 1},
		{palms(shoot(1, 9, 1000, female, 0), tree(2, male, 0), tree(9, male, 0)), 2},
		// Not what the clone just before says, but one before that.
		{palms(tree(1, female, 0), shoot(2, 1, 1000, open, 5), shoot(3, 2, 2000, open, 0), shoot(4, 3, 3000, male, 5)), 3},
		{palms(tree(1, open, 0), shoot(2, 1, 1000, open, 5), shoot(3, 2, 2000, female, 0), shoot(4, 3, 3000, female, 6)), 3},
		// The first one, of several and of several clones.
		{palms(tree(1, female, 0), shoot(2, 1, 1000, male, 0), shoot(3, 1, 1000, male, 0), shoot(4, 1, 1000, male, 0)), 1},
		{palms(tree(1, female, 1), shoot(2, 1, 1000, open, 2), shoot(3, 1, 1000, male, 0)), 1},
		{palms(tree(1, female, 1), shoot(2, 1, 1000, male, 0), shoot(3, 1, 1000, open, 2)), 1},
		{palms(tree(1, female, 1), tree(2, male, 0), shoot(3, 2, 1000, female, 0), shoot(4, 1, 1000, male, 0)), 2},
		{palms(tree(1, female, 1), tree(2, male, 0), shoot(3, 1, 1000, male, 0), shoot(4, 2, 1000, female, 0)), 2},
		{palms(tree(1, female, 1), tree(2, male, 2), tree(3, male, 0), shoot(4, 1, 1000, open, 2)), 3},
	} {
		if known, at, e := palm.Known(x.l); len(known) != 0 || at != x.at || e != api.ErrClone {
			t.Errorf("Known %v: %v %v %v, want %v", x.l, known, at, e, x.at)
		}
		if e := palm.Check(x.l); e != api.OK {
			t.Errorf("Check %v: %v", x.l, e)
		}
		for _, w := range []api.Work{{}, {Open: 1}, example(), {Day: -1}} {
			wantNoWork(t, x.l, w, api.ErrClone)
		}
	}
	// Clones are told all the same.
	wantClones(t, palms(tree(1, female, 0), shoot(2, 1, 1000, male, 0)), 2, api.OK, 1, 2)
}

func TestClones(t *testing.T) {
	wantClones(t, grove(), 1, api.OK, 1, 2)
	wantClones(t, grove(), 5, api.OK, 5)
	for _, id := range ints(0, 3, 4, 6, mostId, mostId+1, -1, math.MinInt, math.MaxInt) {
		wantClones(t, grove(), id, api.ErrNone)
	}
	// 0 and 9 have mothers and offshoots in any order; 3 and 4 are others.
	l := palms(tree(0, open, 0), shoot(2, 6, 3000, open, 0), shoot(3, 4, 1000, open, 0), tree(4, open, 0), shoot(5, 0, 1000, open, 0), shoot(6, 9, 2000, open, 0), shoot(9, 0, 1000, open, 0), tree(mostId, open, 0))
	for _, id := range ints(0, 2, 5, 6, 9) {
		wantClones(t, l, id, api.OK, 0, 2, 5, 6, 9)
	}
	wantClones(t, l, 3, api.OK, 3, 4)
	wantClones(t, l, 4, api.OK, 3, 4)
	wantClones(t, l, mostId, api.OK, mostId)
	var ids []int
	for id := range 24 {
		ids = append(ids, id)
	}
	for id := range 24 {
		wantClones(t, row(24), id, api.OK, ids...)
	}
	wantClones(t, row(24), 24, api.ErrNone)
}

func TestSlots(t *testing.T) {
	// From Hi on, and before Lo and 30.
	for _, x := range []struct {
		cracks api.Span
		want   []int
	}{
		{span(100, 100), ints(0, 1, 2, 3, 4)}, {span(90, 105), ints(1, 2)}, {span(90, 106), ints(2)}, {span(81, 101), ints(1, 2)}, {span(80, 101), ints(1)},
		{span(76, 110), nil}, {span(80, 110), nil}, {span(81, 110), ints(2)}, {span(81, 111), nil},
		{span(71, 100), ints(0)}, {span(70, 99), nil}, {span(71, 101), nil}, {span(99, 128), ints(3)}, {span(99, 129), nil}, {span(100, 129), ints(4)},
		{span(129, 129), ints(4)}, {span(130, 130), nil}, {span(0, mostHour), nil}, {span(mostHour, mostHour), nil}, {span(0, 0), nil},
	} {
		wantSlots(t, grove(), work(ints(100, 105, 110, 128, 129), nil, x.cracks), x.want)
	}
	// Lots do not matter.
	wantSlots(t, grove(), work(ints(3, 9), lots(lot(0, 5, 5)), span(0, 5), span(0, 3), span(5, 12)), ints(1), ints(0, 1), nil)
	wantSlots(t, grove(), work(nil, lots(lot(9, 0, 50)), span(0, 5), span(0, 3)), nil, nil)
	wantSlots(t, grove(), work(ints(1, 2), lots(lot(9, 0, 50))))
	// How long a spathe takes pollen.
	for _, x := range []struct {
		open int
		want []int
	}{{1, ints(0)}, {2, ints(0, 1)}, {3, ints(0, 1)}, {4, ints(0, 1, 2)}, {499, ints(0, 1, 2, 3)}, {500, ints(0, 1, 2, 3, 4)}} {
		w := work(ints(7, 8, 10, 505, 506, 507), nil, span(7, 7))
		w.Open = x.open
		wantSlots(t, grove(), w, x.want)
	}
	// The first and the last hours there are.
	wantSlots(t, grove(), work(ints(0, 29, 30, mostHour-1, mostHour), nil, span(0, 0), span(mostHour, mostHour), span(mostHour-29, mostHour), span(mostHour-30, mostHour)), ints(0, 1), ints(4), ints(4), nil)
}

func TestBears(t *testing.T) {
	l := palms(shoot(1, -1, 1000, female, 0), shoot(2, 1, 2000, open, 0), shoot(5, -1, 1500, male, 0), shoot(6, 5, 2500, open, 0))
	for _, x := range []struct {
		spathe, lot, day int
		ok               bool
	}{
		{1, 5, 3000, true}, {1, 5, 2999, false}, {2, 5, 3499, false}, {2, 5, 3500, true}, {1, 6, 3999, false}, {1, 6, 4000, true}, {2, 6, 4000, true}, {2, 6, mostDay, true},
		{1, 5, 0, false}, {5, 1, 5000, false}, {1, 1, 5000, false}, {5, 5, 5000, false}, {2, 2, 5000, false}, {6, 6, 5000, false},
		{3, 5, 5000, false}, {1, 3, 5000, false}, {-1, 5, 5000, false}, {1, -1, 5000, false},
	} {
		w := api.Work{Day: x.day, Spathes: []api.Spathe{{Palm: x.spathe}}, Lots: lots(api.Lot{Palm: x.lot}), Open: 1}
		if x.ok {
			wantSlots(t, l, w, nil)
		} else {
			wantNoWork(t, l, w, api.ErrWork)
		}
		w.Spathes = nil
		w.Lots[0].Palm = 5
		if x.day >= 3000 {
			wantSlots(t, l, w)
		} else {
			wantNoWork(t, l, w, api.ErrWork)
		}
	}
	// Of a palm whose sex is not known there is neither, unless it is told of a clone.
	unknown := palms(tree(1, open, 7), tree(5, male, 0))
	wantNoWork(t, unknown, work(nil, nil, span(0, 0)), api.ErrWork)
	wantNoWork(t, unknown, api.Work{Day: 4000, Lots: lots(api.Lot{Palm: 1}), Open: 30}, api.ErrWork)
	wantSlots(t, append(unknown, shoot(7, 1, 1000, female, 0)), work(nil, nil, span(0, 0)), nil)
	wantSlots(t, append(unknown, shoot(7, 1, 1000, male, 0)), api.Work{Day: 4000, Lots: lots(api.Lot{Palm: 1}), Open: 30})
}

// wrongSpans are no spans from 0 to a number.
func wrongSpans(most int) []api.Span {
	return []api.Span{
		span(1, 0), span(-1, 0), span(-1, -1), span(-1, most), span(0, most+1), span(most+1, most+1), span(most, most-1),
		span(math.MinInt, 0), span(0, math.MaxInt), span(math.MinInt, math.MaxInt), span(math.MaxInt, math.MinInt),
		span(math.MinInt, math.MinInt), span(math.MaxInt, math.MaxInt), span(math.MaxInt, 0),
	}
}

// wrongWorks are not valid for the palms of the examples, each for one reason.
func wrongWorks() []api.Work {
	var wrong []api.Work
	change := func(how func(w *api.Work)) {
		w := example()
		how(&w)
		wrong = append(wrong, w)
	}
	for _, n := range ints(-1, mostDay+1, 0, 1499, 2699, math.MinInt, math.MinInt+1499, math.MaxInt) {
		change(func(w *api.Work) { w.Day = n })
	}
	for _, n := range ints(-1, 0, mostOpen+1, math.MinInt, math.MaxInt) {
		change(func(w *api.Work) { w.Open = n })
	}
	for i := range example().Spathes {
		for _, n := range ints(5, 0, 3, 7, -1, mostId+1, math.MinInt, math.MaxInt) {
			change(func(w *api.Work) { w.Spathes[i].Palm = n })
		}
		for _, s := range wrongSpans(mostHour) {
			change(func(w *api.Work) { w.Spathes[i].Cracks = s })
		}
	}
	for _, l := range [][]int{ints(-1), ints(mostHour + 1), ints(1, 1), ints(2, 1), ints(0, 0), ints(1, 5, 5), ints(1, 5, 4), ints(-1, 5), ints(5, mostHour+1), ints(math.MinInt), ints(math.MaxInt), ints(math.MinInt, 7), ints(7, math.MaxInt), ints(math.MaxInt, math.MinInt), hours(17), hours(1000), make([]int, 1000)} {
		change(func(w *api.Work) { w.Hours = l })
	}
	for _, n := range ints(1, 2, 0, 3, 7, -1, mostId+1, math.MinInt, math.MaxInt) {
		change(func(w *api.Work) { w.Lots[0].Palm = n })
		change(func(w *api.Work) { w.Lots = lots(lot(2, 0, 50), api.Lot{Palm: n}) })
	}
	for _, n := range ints(-1, 101, math.MinInt, math.MaxInt) {
		change(func(w *api.Work) { w.Lots[0].Units = n })
		change(func(w *api.Work) { w.Lots = append(w.Lots, lot(n, 0, 50)) })
	}
	for _, s := range wrongSpans(mostHour) {
		change(func(w *api.Work) { w.Lots[0] = lot(2, s.Lo, s.Hi) })
		change(func(w *api.Work) { w.Lots = append(w.Lots, lot(0, s.Lo, s.Hi)) })
	}
	change(func(w *api.Work) { w.Spathes = slices.Repeat(w.Spathes, 3) })
	change(func(w *api.Work) { w.Spathes = slices.Repeat(w.Spathes, 1000) })
	change(func(w *api.Work) { w.Lots = slices.Repeat(w.Lots, 5) })
	change(func(w *api.Work) { w.Lots = slices.Repeat(w.Lots, 1000) })
	return wrong
}

func TestInvalidWorks(t *testing.T) {
	clash := palms(tree(1, female, 0), shoot(2, 1, 1200, male, 7), tree(5, male, 0))
	for _, w := range wrongWorks() {
		wantNoWork(t, grove(), w, api.ErrWork)
		wantNoWork(t, clash, w, api.ErrClone)
		wantNoWork(t, palms(tree(1, 3, 0)), w, api.ErrPalms)
	}
	wantNoWork(t, nil, example(), api.ErrWork)
	wantNoWork(t, grove(), api.Work{}, api.ErrWork)
	// A work without anything is one on any day.
	for _, day := range ints(0, 1, mostDay) {
		wantSlots(t, grove(), api.Work{Day: day, Open: 1})
		wantSlots(t, grove(), api.Work{Day: day, Open: mostOpen, Hours: ints(0, mostHour)})
	}
}

func TestMost(t *testing.T) {
	plenty := lots(lot(100, 0, mostHour))
	for _, x := range []struct {
		w    api.Work
		want []api.Dust
	}{
		// Nothing to do, no hours, no lots, no units, and nothing that is good.
		{work(hours(4), plenty), nil}, {work(nil, plenty, span(80, 80)), nil}, {work(hours(4), nil, span(80, 80)), nil}, {work(hours(4), lots(lot(0, 0, 500)), span(80, 80)), nil},
		{work(hours(4), lots(lot(9, 102, 102)), span(80, 80)), nil}, {work(hours(4), plenty, span(104, 104)), nil},
		// A lot is good at From, and not at To.
		{work(hours(4), lots(lot(9, 101, 102)), span(80, 80)), dusts(dust(0, 1, 0))}, {work(hours(4), lots(lot(9, 0, 100)), span(80, 80)), nil}, {work(hours(4), lots(lot(9, 0, 101)), span(80, 80)), dusts(dust(0, 0, 0))},
		{work(hours(4), lots(lot(9, 103, mostHour)), span(80, 80)), dusts(dust(0, 3, 0))}, {work(hours(4), lots(lot(9, 104, mostHour)), span(80, 80)), nil},
		// Several greatest plans.
		{work(hours(2), plenty, span(80, 80), span(80, 80)), dusts(dust(0, 0, 0), dust(1, 1, 0))},
		{work(hours(4), plenty, takes(101, 103), takes(100, 103)), dusts(dust(0, 1, 0), dust(1, 0, 0))},
		{work(hours(1), plenty, span(80, 80), span(80, 80)), dusts(dust(0, 0, 0))},
		{work(hours(4), lots(lot(1, 0, 500)), span(80, 80), span(80, 80)), dusts(dust(0, 0, 0))},
		// A later hour, since another spathe has the first one only; or one that has none.
		{work(hours(2), plenty, takes(100, 101), takes(100, 100)), dusts(dust(0, 1, 0), dust(1, 0, 0))},
		{work(hours(2), plenty, takes(100, 101), takes(100, 100), takes(100, 100)), dusts(dust(0, 1, 0), dust(1, 0, 0))},
		{work(hours(2), plenty, takes(100, 100), takes(100, 100), takes(101, 101)), dusts(dust(0, 0, 0), dust(2, 1, 0))},
		{work(hours(2), plenty, takes(100, 100), takes(100, 100), takes(100, 101)), dusts(dust(0, 0, 0), dust(2, 1, 0))},
		{work(hours(3), plenty, takes(100, 102), takes(100, 101), takes(100, 101)), dusts(dust(0, 2, 0), dust(1, 0, 0), dust(2, 1, 0))},
		// An hour that no lot is good in.
		{work(hours(3), lots(lot(9, 100, 101), lot(9, 102, 103)), span(80, 80), span(80, 80), span(80, 80)), dusts(dust(0, 0, 0), dust(1, 2, 1))},
		// Plans that differ in a lot alone.
		{work(hours(1), lots(lot(1, 0, 500), lot(1, 0, 500)), span(80, 80)), dusts(dust(0, 0, 0))},
		{work(hours(1), lots(lot(0, 0, 500), lot(1, 0, 500)), span(80, 80)), dusts(dust(0, 0, 1))},
		{work(hours(2), lots(lot(1, 0, 500), lot(1, 0, 500)), span(80, 80), span(80, 80)), dusts(dust(0, 0, 0), dust(1, 1, 1))},
		{work(hours(2), lots(lot(1, 0, 500), lot(1, 0, 101)), takes(100, 100), takes(101, 101)), dusts(dust(0, 0, 1), dust(1, 1, 0))},
		{work(hours(2), lots(lot(2, 0, 500), lot(1, 0, 101)), takes(100, 100), takes(101, 101)), dusts(dust(0, 0, 0), dust(1, 1, 0))},
		// The lesser hour is first, although its lot is not.
		{work(hours(2), lots(lot(9, 101, 102), lot(9, 100, 101)), span(80, 80)), dusts(dust(0, 0, 1))},
		// The hour 0 would take the only unit that is good then.
		{work(hours(3), lots(lot(1, 100, 102), lot(1, 102, 103)), takes(100, 102), takes(101, 101)), dusts(dust(0, 2, 1), dust(1, 1, 0))},
		// One for each of four lots.
		{work(hours(4), lots(lot(1, 0, 500), lot(1, 0, 103), lot(1, 0, 102), lot(1, 0, 101)), takes(100, 100), takes(101, 101), takes(102, 102), takes(103, 103)), dusts(dust(0, 0, 3), dust(1, 1, 2), dust(2, 2, 1), dust(3, 3, 0))},
	} {
		wantMost(t, grove(), x.w, x.want...)
		if c, e := palm.Proof(grove(), x.w); e != api.OK {
			t.Error(x.w, e)
		} else {
			wantProves(t, grove(), x.w, c, api.OK, len(x.want))
		}
	}
}

func TestProof(t *testing.T) {
	plenty := lots(lot(100, 0, mostHour))
	for _, x := range []struct {
		w    api.Work
		want api.Cover
		many int
	}{
		// Covers of nothing: no spathes, none that can be pollinated, and no pollen.
		{work(hours(4), plenty), api.Cover{}, 0}, {work(hours(4), plenty, span(104, 104)), api.Cover{}, 0}, {work(hours(4), nil, span(80, 80)), api.Cover{}, 0}, {work(hours(4), lots(lot(5, 104, 105)), span(80, 80)), api.Cover{}, 0},
		// A lot of no units proves nothing, and is named.
		{work(hours(1), lots(lot(0, 0, 500)), span(80, 80)), cover(nil, nil, ints(0)), 0}, {work(hours(1), lots(lot(5, 0, 50), lot(0, 0, 500)), span(80, 80)), cover(nil, nil, ints(1)), 0},
		// All are pollinated.
		{work(hours(2), plenty, span(80, 80), span(80, 80)), cover(ints(0, 1), nil, nil), 2},
		// One hour, or one unit, is too few.
		{work(hours(1), plenty, span(80, 80), span(80, 80)), cover(nil, ints(0), nil), 1},
		{work(hours(2), lots(lot(1, 0, 500)), span(80, 80), span(80, 80)), cover(nil, nil, ints(0)), 1},
		{work(hours(1), lots(lot(1, 0, 500)), span(80, 80), span(80, 80)), cover(nil, ints(0), nil), 1},
		// Spathes, hours and lots.
		{work(hours(4), lots(lot(5, 100, 102), lot(1, 102, 104)), takes(100, 100), takes(101, 101), takes(101, 101), takes(102, 102), takes(103, 103)), cover(ints(0), ints(1), ints(1)), 3},
		// From spathe to hour to spathe, again and again.
		{work(hours(3), plenty, takes(100, 101), takes(101, 102), takes(102, 102), takes(100, 100)), cover(nil, ints(0, 1, 2), nil), 3},
		// By a lot to an hour that has a dust from it, and from its spathe on to another lot.
		{work(hours(4), lots(lot(1, 100, 102), lot(1, 102, 104)), takes(100, 100), takes(101, 102), takes(103, 103)), cover(nil, nil, ints(0, 1)), 2},
		// To an hour that is open, although no marked spathe can be pollinated in it.
		{work(hours(3), lots(lot(1, 100, 102), lot(9, 102, 103)), takes(100, 100), takes(101, 101), takes(102, 102)), cover(ints(2), nil, ints(0)), 2},
		// An hour in which no lot is good is asked, and does not matter.
		{work(hours(3), lots(lot(9, 100, 101)), takes(100, 102), takes(100, 101)), cover(nil, ints(0), nil), 1},
		// From an open hour's other lot, that is not full by itself, to hours that have their dusts from it.
		{work(hours(4), lots(lot(1, 100, 104), lot(2, 100, 103)), takes(100, 100), takes(101, 101), takes(102, 102), takes(103, 103)), cover(nil, nil, ints(0, 1)), 3},
	} {
		wantProof(t, grove(), x.w, x.want, x.many)
	}
}

func TestProves(t *testing.T) {
	for _, x := range []struct {
		c    api.Cover
		want int
	}{
		{cover(ints(0, 1, 2), nil, nil), 3}, {cover(nil, ints(0, 1, 2), nil), 3}, {cover(nil, nil, ints(0)), 2}, {cover(ints(0, 1), ints(2), nil), 3}, {cover(ints(0, 2), ints(0, 1), nil), 4}, {cover(ints(2), ints(0, 1), nil), 3},
		// More than is needed is a cover as well.
		{cover(ints(0, 1, 2), ints(0, 1, 2, 3), ints(0)), 9}, {cover(nil, ints(3), ints(0)), 3}, {cover(ints(), ints(0, 1, 2, 3), ints()), 4}, {cover(ints(1), nil, ints(0)), 3},
	} {
		wantProves(t, grove(), example(), x.c, api.OK, x.want)
	}
	for _, c := range []api.Cover{
		{}, cover(ints(0, 1), nil, nil), cover(ints(0, 2), nil, nil), cover(ints(1, 2), nil, nil), cover(nil, ints(0, 1), nil), cover(nil, ints(1, 2), nil), cover(nil, ints(0, 2), nil), cover(nil, ints(3), nil), cover(ints(0, 2), ints(0), nil), cover(ints(0, 2), ints(1, 3), nil), cover(ints(), ints(), ints()),
	} {
		wantProves(t, grove(), example(), c, api.ErrCover, 0)
	}
	// An hour in which only a lot is good that is named need not be.
	w := work(hours(3), lots(lot(7, 100, 102), lot(2, 101, 103)), span(80, 80))
	for _, x := range []struct {
		c    api.Cover
		want int
	}{{cover(nil, ints(1, 2), ints(0)), 9}, {cover(nil, ints(0), ints(1)), -1}, {cover(nil, ints(0, 1), ints(1)), 4}, {cover(nil, ints(0, 2), ints(1)), -1}, {cover(nil, ints(2), ints(0)), -1}, {cover(nil, nil, ints(0, 1)), 9}, {cover(nil, nil, ints(0)), -1}, {cover(nil, ints(0, 1, 2), nil), 3}, {cover(ints(0), nil, nil), 1}} {
		if x.want < 0 {
			wantProves(t, grove(), w, x.c, api.ErrCover, 0)
		} else {
			wantProves(t, grove(), w, x.c, api.OK, x.want)
		}
	}
	// A lot that is good in no hour covers nothing, and one without units costs nothing.
	w = work(hours(1), lots(lot(0, 0, 500), lot(3, 50, 50)), span(80, 80))
	wantProves(t, grove(), w, cover(nil, nil, ints(0)), api.OK, 0)
	wantProves(t, grove(), w, cover(nil, nil, ints(0, 1)), api.OK, 3)
	wantProves(t, grove(), w, cover(nil, nil, ints(1)), api.ErrCover, 0)
}

func TestInvalidCovers(t *testing.T) {
	// Each list names all there are, so that nothing is wrong but an index.
	good := func() api.Cover { return cover(ints(0, 1, 2), ints(0, 1, 2, 3), ints(0)) }
	wantProves(t, grove(), example(), good(), api.OK, 9)
	for _, many := range []struct {
		of, others int
		list       func(c *api.Cover) *[]int
	}{
		{3, 6, func(c *api.Cover) *[]int { return &c.Spathes }}, {4, 5, func(c *api.Cover) *[]int { return &c.Hours }}, {1, 7, func(c *api.Cover) *[]int { return &c.Lots }},
	} {
		for _, l := range [][]int{ints(-1), ints(many.of), ints(-1, 0), ints(0, many.of), ints(0, 0), ints(1, 0), ints(0, 2, 1), ints(0, 1, 1), ints(0, 1, 2, 2), ints(2, 1, 0), ints(math.MinInt), ints(math.MaxInt), ints(0, math.MaxInt), ints(math.MinInt, 0), ints(0, 64), ints(64), ints(63), make([]int, 1000)} {
			c := good()
			*many.list(&c) = l
			wantProves(t, grove(), example(), c, api.ErrCover, 0)
		}
		// Without that list it is a cover still.
		c := good()
		*many.list(&c) = nil
		wantProves(t, grove(), example(), c, api.OK, many.others)
	}
	// Of a work without anything there is nothing to name.
	for _, l := range [][]int{ints(0), ints(-1), ints(1), ints(math.MaxInt)} {
		for _, c := range []api.Cover{cover(l, nil, nil), cover(nil, l, nil), cover(nil, nil, l)} {
			wantProves(t, grove(), api.Work{Open: 1}, c, api.ErrCover, 0)
		}
	}
}

func TestLimits(t *testing.T) {
	// As many of everything as may be.
	w := work(hours(16), lots(lot(100, 0, mostHour), lot(100, 0, mostHour), lot(100, 0, mostHour), lot(100, 0, mostHour)), slices.Repeat([]api.Span{span(90, 90)}, 8)...)
	var want []api.Dust
	slots, eight, sixteen := [][]int{}, ints(0, 1, 2, 3, 4, 5, 6, 7), ints(0, 1, 2, 3, 4, 5, 6, 7, 8, 9, 10, 11, 12, 13, 14, 15)
	for s := range 8 {
		want = append(want, dust(s, s, 0))
		slots = append(slots, sixteen)
	}
	wantSlots(t, grove(), w, slots...)
	wantMost(t, grove(), w, want...)
	wantProof(t, grove(), w, cover(eight, nil, nil), 8)
	wantProves(t, grove(), w, cover(eight, sixteen, ints(0, 1, 2, 3)), api.OK, 424)
	wantProves(t, grove(), w, cover(nil, nil, ints(0, 1, 2, 3)), api.OK, 400)
	// One unit of each lot, the last ones first.
	for i := range w.Lots {
		w.Lots[i] = lot(1, 115-i, 116-i)
	}
	wantMost(t, grove(), w, dust(0, 12, 3), dust(1, 13, 2), dust(2, 14, 1), dust(3, 15, 0))
	wantProof(t, grove(), w, cover(nil, sixteen[12:], nil), 4)
	// Each spathe has the hours that those before it need, and one more.
	w = work(hours(16), lots(lot(100, 0, mostHour)))
	for i := range 8 {
		w.Spathes = append(w.Spathes, api.Spathe{Palm: 1, Cracks: takes(100, 107-i)})
		want[i] = dust(i, 7-i, 0)
	}
	wantMost(t, grove(), w, want...)
	wantProof(t, grove(), w, cover(eight, nil, nil), 8)
	// The greatest numbers.
	w = api.Work{Day: mostDay, Spathes: []api.Spathe{{Palm: mostId, Cracks: span(mostHour, mostHour)}}, Hours: ints(mostHour-1, mostHour), Lots: lots(api.Lot{Palm: 0, Units: 100, From: mostHour - 1, To: mostHour}), Open: mostOpen}
	l := palms(tree(0, male, 99), shoot(mostId, -1, mostDay-1500, female, 99))
	wantSlots(t, l, w, ints(1))
	wantMost(t, l, w)
	wantProof(t, l, w, api.Cover{}, 0)
	w.Spathes[0].Cracks = span(mostHour-1, mostHour-1)
	wantMost(t, l, w, dust(0, 0, 0))
	wantProof(t, l, w, cover(ints(0), nil, nil), 1)
}
