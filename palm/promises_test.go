package palm_test

import (
	"cmp"
	"math"
	"slices"
	"testing"

	"aflaj/api"
	"aflaj/palm"
)

// dice are numbers that look thrown, and are the same in every run.
type dice struct{ state uint64 }

// from returns a number from low to high.
func (d *dice) from(low, high int) int {
	d.state = d.state*6364136223846793005 + 1442695040888963407
	return low + int((d.state>>33)%uint64(high-low+1))
}

// thrownPalms throws palms: some are offshoots of others that come before or after them, and of few of them much is told.
func thrownPalms(d *dice, most int) []api.Palm {
	var l []api.Palm
	id := -1
	for range d.from(0, most) {
		id += d.from(1, 3)
		l = append(l, api.Palm{Id: id, Mother: -1, Planted: d.from(0, 9000)})
	}
	for i := range l {
		for range d.from(0, 3) {
			if mother := d.from(0, len(l)-1); l[mother].Planted <= l[i].Planted-1000 {
				l[i].Mother = l[mother].Id
			}
		}
		if d.from(0, 3) == 0 {
			l[i].Sex = uint8(d.from(1, 4)/4 + 1)
		}
		if d.from(0, 3) == 0 {
			l[i].Sort = d.from(1, 4)/4 + 1
		}
	}
	return l
}

// joined tells which palms are clones: it joins mothers and offshoots until nothing changes.
func joined(l []api.Palm) []int {
	group := make([]int, len(l))
	for i := range group {
		group[i] = i
	}
	for range l {
		for i, p := range l {
			for k, q := range l {
				if p.Mother == q.Id {
					least := min(group[i], group[k])
					group[i], group[k] = least, least
				}
			}
		}
	}
	return group
}

// known returns, in the chapter's words, what is known of palms that do not contradict each other.
func known(l []api.Palm) []api.Palm {
	group := joined(l)
	told := slices.Clone(l)
	for i := range told {
		for k, q := range l {
			if group[i] == group[k] && q.Sex != 0 {
				told[i].Sex = q.Sex
			}
			if group[i] == group[k] && q.Sort != 0 {
				told[i].Sort = q.Sort
			}
		}
	}
	return told
}

// contradicts returns, in the chapter's words, the first palm that contradicts a clone before it, or -1.
func contradicts(l []api.Palm) int {
	group := joined(l)
	return slices.IndexFunc(l, func(p api.Palm) bool {
		i := slices.Index(l, p)
		for k, q := range l[:i] {
			if group[i] == group[k] && (p.Sex*q.Sex == 2 || p.Sort*q.Sort > 0 && p.Sort != q.Sort) {
				return true
			}
		}
		return false
	})
}

// TestAllClones looks at thrown palms (P7.1, P7.7).
func TestAllClones(t *testing.T) {
	d, clash, learnt := &dice{1}, 0, 0
	for range 6000 {
		l := thrownPalms(d, []int{4, 9, 24}[d.from(0, 2)])
		if e := palm.Check(l); e != api.OK {
			t.Fatal(l, e)
		}
		group := joined(l)
		for i, p := range l {
			var want []int
			for k, q := range l {
				if group[i] == group[k] {
					want = append(want, q.Id)
				}
			}
			wantClones(t, l, p.Id, api.OK, want...)
		}
		if want := contradicts(l); want >= 0 {
			got, at, e := palm.Known(l)
			if len(got) != 0 || at != want || e != api.ErrClone {
				t.Fatal(l, got, at, e, want)
			}
			wantNoWork(t, l, api.Work{Open: 1}, api.ErrClone)
			clash++
			continue
		}
		wantKnown(t, l, known(l)...)
		wantKnown(t, known(l), known(l)...)
		if !slices.Equal(known(l), l) {
			learnt++
		}
	}
	if clash < 500 || learnt < 500 {
		t.Error("too few of a kind:", clash, learnt)
	}
}

// TestMoreIsToldNoLess tells more of palms (P7.7).
func TestMoreIsToldNoLess(t *testing.T) {
	d, more, clash := &dice{2}, 0, 0
	for range 6000 {
		l := thrownPalms(d, 12)
		was, _, e := palm.Known(l)
		if e != api.OK || len(l) == 0 {
			continue
		}
		for i, p := range was {
			for k, q := range was {
				if joined(l)[i] == joined(l)[k] && (p.Sex != q.Sex || p.Sort != q.Sort) {
					t.Fatal(l, was)
				}
			}
		}
		told := slices.Clone(l)
		for range d.from(1, 4) {
			i := d.from(0, len(l)-1)
			told[i].Sex = cmp.Or(told[i].Sex, uint8(d.from(0, 2)))
			told[i].Sort = cmp.Or(told[i].Sort, d.from(0, 2))
		}
		is, _, e := palm.Known(told)
		if e == api.ErrClone {
			clash++
			continue
		}
		for i, p := range was {
			if e != api.OK || p.Sex != 0 && is[i].Sex != p.Sex || p.Sort != 0 && is[i].Sort != p.Sort || told[i].Sex != 0 && is[i].Sex != told[i].Sex || told[i].Sort != 0 && is[i].Sort != told[i].Sort {
				t.Fatal(l, was, told, is, e)
			}
		}
		if !slices.Equal(was, is) {
			more++
		}
	}
	if more < 500 || clash < 500 {
		t.Error("too few of a kind:", more, clash)
	}
}

// size is how much of everything a thrown work has at most, and how many hours it is about.
type size struct{ spathes, hours, lots, units, time int }

// small is what can be tried in all ways, and wide what cannot.
func small() size { return size{4, 4, 2, 2, 12} }

func wide() size { return size{8, 16, 4, 3, 40} }

// thrownSpan throws a span from 0 to most, which is not longer than long.
func thrownSpan(d *dice, most, long int) api.Span {
	lo := d.from(0, most)
	return span(lo, min(lo+d.from(0, long), most))
}

// few throws a number up to the most: now and then none, and often nearly as many.
func few(d *dice, most int) int { return max(d.from(0, most), d.from(0, most)) }

// thrownWork throws a work for the palms of the examples.
func thrownWork(d *dice, most size) api.Work {
	w := api.Work{Day: 4000, Open: few(d, most.time-1) + 1}
	for range few(d, most.spathes) {
		w.Spathes = append(w.Spathes, api.Spathe{Palm: d.from(1, 2), Cracks: thrownSpan(d, most.time, d.from(0, w.Open)/d.from(1, 4))})
	}
	var when []int
	for range few(d, most.hours) {
		when = append(when, few(d, most.time))
	}
	slices.Sort(when)
	w.Hours = slices.Compact(when)
	for range few(d, most.lots) {
		from, to := d.from(0, most.time)/2, few(d, most.time)
		w.Lots = append(w.Lots, lot(few(d, most.units), min(from, to), to))
	}
	return w
}

// can tells, in the chapter's words, whether a spathe can be pollinated in an hour.
func can(w api.Work, spathe, hour int) bool {
	cracks, h := w.Spathes[spathe].Cracks, w.Hours[hour]
	return h >= cracks.Hi && h < cracks.Lo+w.Open
}

// isGood tells whether a lot is good in an hour.
func isGood(w api.Work, lot, hour int) bool {
	return w.Hours[hour] >= w.Lots[lot].From && w.Hours[hour] < w.Lots[lot].To
}

// isPlan tells whether dusts are a plan.
func isPlan(w api.Work, plan []api.Dust) bool {
	next := 0
	var used []int
	units := make([]int, len(w.Lots))
	for _, x := range plan {
		if x.Spathe < next || x.Spathe >= len(w.Spathes) || x.Hour < 0 || x.Hour >= len(w.Hours) || x.Lot < 0 || x.Lot >= len(w.Lots) {
			return false
		}
		if !can(w, x.Spathe, x.Hour) || !isGood(w, x.Lot, x.Hour) || slices.Contains(used, x.Hour) || units[x.Lot] == w.Lots[x.Lot].Units {
			return false
		}
		next = x.Spathe + 1
		used = append(used, x.Hour)
		units[x.Lot]++
	}
	return true
}

// isFirst tells, in the chapter's words, whether of two plans the one is first.
func isFirst(w api.Work, one, other []api.Dust) bool {
	for s := range w.Spathes {
		of := func(plan []api.Dust) (api.Dust, bool) {
			i := slices.IndexFunc(plan, func(x api.Dust) bool { return x.Spathe == s })
			if i < 0 {
				return api.Dust{}, false
			}
			return plan[i], true
		}
		a, inOne := of(one)
		b, inOther := of(other)
		if a != b || inOne != inOther {
			return inOne && (!inOther || a.Hour < b.Hour || a.Hour == b.Hour && a.Lot < b.Lot)
		}
	}
	return false
}

// tried returns the first of the greatest plans, of all there are, and how many of them are as great.
func tried(w api.Work) (best []api.Dust, same int) {
	var try func(plan []api.Dust, spathe int)
	try = func(plan []api.Dust, spathe int) {
		if spathe == len(w.Spathes) {
			switch {
			case len(plan) > len(best):
				best, same = slices.Clone(plan), 1
			case len(plan) == len(best):
				if isFirst(w, plan, best) {
					best = slices.Clone(plan)
				}
				same++
			}
			return
		}
		try(plan, spathe+1)
		for lot := range w.Lots {
			for hour := range w.Hours {
				if longer := append(slices.Clone(plan), dust(spathe, hour, lot)); isPlan(w, longer) {
					try(longer, spathe+1)
				}
			}
		}
	}
	try(nil, 0)
	return best, same
}

// covers tells, in the chapter's words, whether indices are a cover, and what it proves.
func covers(w api.Work, c api.Cover) (int, bool) {
	many := len(c.Spathes) + len(c.Hours)
	for _, lot := range c.Lots {
		many += w.Lots[lot].Units
	}
	for s := range w.Spathes {
		for h := range w.Hours {
			for lot := range w.Lots {
				if !slices.Contains(c.Spathes, s) && !slices.Contains(c.Hours, h) && !slices.Contains(c.Lots, lot) && can(w, s, h) && isGood(w, lot, h) {
					return 0, false
				}
			}
		}
	}
	return many, true
}

// marked returns, in the chapter's words, the cover that the marks of a plan tell: one thing is marked at a time.
func marked(w api.Work, plan []api.Dust) api.Cover {
	spathes, asked, open, lots := map[int]bool{}, map[int]bool{}, map[int]bool{}, map[int]bool{}
	has := map[int]api.Dust{}
	for s := range w.Spathes {
		spathes[s] = true
	}
	for _, x := range plan {
		delete(spathes, x.Spathe)
		has[x.Hour] = x
	}
	mark := func(set map[int]bool, i int) bool {
		was := set[i]
		set[i] = true
		return !was
	}
	step := func() bool {
		for h := range w.Hours {
			x, dusted := has[h]
			if dusted && (asked[h] && mark(spathes, x.Spathe) || lots[x.Lot] && mark(open, h) || open[h] && mark(asked, h)) || !dusted && asked[h] && mark(open, h) {
				return true
			}
			for s := range w.Spathes {
				if spathes[s] && can(w, s, h) && mark(asked, h) {
					return true
				}
			}
			for lot := range w.Lots {
				if open[h] && isGood(w, lot, h) && mark(lots, lot) {
					return true
				}
			}
		}
		return false
	}
	for step() {
	}
	var c api.Cover
	for s := range w.Spathes {
		if !spathes[s] {
			c.Spathes = append(c.Spathes, s)
		}
	}
	for h := range w.Hours {
		if asked[h] && !open[h] {
			c.Hours = append(c.Hours, h)
		}
	}
	for lot := range w.Lots {
		if lots[lot] {
			c.Lots = append(c.Lots, lot)
		}
	}
	return c
}

// wantProven wants that a plan has the cover that its marks tell, which proves that there is no greater one, and returns this cover.
func wantProven(t *testing.T, w api.Work, plan []api.Dust) api.Cover {
	t.Helper()
	c := marked(w, plan)
	if many, is := covers(w, c); !isPlan(w, plan) || !is || many != len(plan) {
		t.Fatal(w, plan, c, many, is)
	}
	wantProof(t, grove(), w, c, len(plan))
	return c
}

// TestAllPlans tries all plans of small works (P7.2, P7.3, P7.4).
func TestAllPlans(t *testing.T) {
	d, several, all, some, none := &dice{3}, 0, 0, 0, 0
	for range 6000 {
		w := thrownWork(d, small())
		want, same := tried(w)
		wantMost(t, grove(), w, want...)
		wantProven(t, w, want)
		var slots [][]int
		for s := range w.Spathes {
			slots = append(slots, nil)
			for h := range w.Hours {
				if can(w, s, h) {
					slots[s] = append(slots[s], h)
				}
			}
		}
		wantSlots(t, grove(), w, slots...)
		if same > 1 && len(want) > 0 {
			several++
		}
		switch len(want) {
		case 0:
			none++
		case len(w.Spathes):
			all++
		default:
			some++
		}
	}
	if several < 1000 || all < 200 || some < 1000 || none < 1000 {
		t.Error("too few of a kind:", several, all, some, none)
	}
}

// TestAllCovers tries all covers of small works: none proves less than there is (P7.3, P7.4).
func TestAllCovers(t *testing.T) {
	d, proven, wrong := &dice{4}, 0, 0
	subset := func(of, which int) []int {
		var l []int
		for i := range of {
			if which>>i&1 == 1 {
				l = append(l, i)
			}
		}
		return l
	}
	for range 300 {
		w := thrownWork(d, small())
		plan, _ := palm.Most(grove(), w)
		for which := range 1 << (len(w.Spathes) + len(w.Hours) + len(w.Lots)) {
			c := cover(subset(len(w.Spathes), which), subset(len(w.Hours), which>>len(w.Spathes)), subset(len(w.Lots), which>>(len(w.Spathes)+len(w.Hours))))
			many, is := covers(w, c)
			if !is {
				wantProves(t, grove(), w, c, api.ErrCover, 0)
				wrong++
				continue
			}
			wantProves(t, grove(), w, c, api.OK, many)
			if many < len(plan) {
				t.Fatal(w, plan, c)
			}
			proven++
		}
	}
	if proven < 5000 || wrong < 5000 {
		t.Error("too few of a kind:", proven, wrong)
	}
}

// pipes are how much more may flow from a node to another one: 0 is where it comes from, 1 where it goes to.
type pipes [46][46]int

// pipesOf returns those of what a plan leaves of a work, for the spathes from one on.
func pipesOf(w api.Work, plan []api.Dust, from int) *pipes {
	p := &pipes{}
	used, units := make([]bool, len(w.Hours)), make([]int, len(w.Lots))
	for _, x := range plan {
		used[x.Hour] = true
		units[x.Lot]++
	}
	for s := from; s < len(w.Spathes); s++ {
		p[0][2+s] = 1
		for h := range w.Hours {
			if can(w, s, h) {
				p[2+s][10+h] = 1
			}
		}
	}
	for h := range w.Hours {
		if !used[h] {
			p[10+h][26+h] = 1
		}
		for lot := range w.Lots {
			if isGood(w, lot, h) {
				p[26+h][42+lot] = 1
			}
		}
	}
	for lot := range w.Lots {
		p[42+lot][1] = w.Lots[lot].Units - units[lot]
	}
	return p
}

// flows returns how much flows through pipes.
func (p *pipes) flows() int {
	for sum := 0; ; sum++ {
		var seen [46]bool
		var run func(node int) bool
		run = func(node int) bool {
			seen[node] = true
			if node == 1 {
				return true
			}
			for next, room := range p[node] {
				if room > 0 && !seen[next] && run(next) {
					p[node][next]--
					p[next][node]++
					return true
				}
			}
			return false
		}
		if !run(0) {
			return sum
		}
	}
}

// wantFirst wants that no spathe of a greatest plan could have something that is first, as far as the plan goes before it.
func wantFirst(t *testing.T, w api.Work, plan []api.Dust) {
	t.Helper()
	done := 0
next:
	for s := range w.Spathes {
		for h := range w.Hours {
			for lot := range w.Lots {
				if done < len(plan) && plan[done] == dust(s, h, lot) {
					done++
					continue next
				}
				if other := append(slices.Clone(plan[:done]), dust(s, h, lot)); isPlan(w, other) && len(other)+pipesOf(w, other, s+1).flows() == len(plan) {
					t.Fatal(w, plan, other)
				}
			}
		}
	}
	if done != len(plan) {
		t.Fatal(w, plan)
	}
}

// TestNoPlanIsGreater proves the plans of wide works, and that they are first (P7.2, P7.3, P7.4).
func TestNoPlanIsGreater(t *testing.T) {
	d, lacks, most := &dice{5}, 0, [9]int{}
	for range 4000 {
		w := thrownWork(d, wide())
		plan, e := palm.Most(grove(), w)
		if many := pipesOf(w, nil, 0).flows(); e != api.OK || len(plan) != many {
			t.Fatal(w, plan, e, many)
		}
		wantProven(t, w, plan)
		wantFirst(t, w, plan)
		most[len(plan)]++
		if len(plan) < len(w.Spathes) {
			lacks++
		}
	}
	if lacks < 1000 || slices.Min(most[:8]) < 30 {
		t.Error("too few of a kind:", lacks, most)
	}
}

// thrownTight throws a work in which few units are for many hours, so that lots pass them on to each other.
func thrownTight(d *dice) api.Work {
	w := work(hours(16), nil)
	for range 8 {
		first := d.from(0, 15)
		w.Spathes = append(w.Spathes, api.Spathe{Palm: 1, Cracks: takes(100+first, min(100+first+d.from(0, 3), 115))})
	}
	for range 4 {
		first := d.from(0, 14)
		w.Lots = append(w.Lots, lot(d.from(0, 3), 100+first, 100+first+d.from(2, 9)))
	}
	return w
}

// TestLotsPassUnitsOn proves plans of such works (P7.2, P7.3, P7.4).
func TestLotsPassUnitsOn(t *testing.T) {
	d, mixed, open := &dice{6}, 0, 0
	for range 1500 {
		w := thrownTight(d)
		plan, e := palm.Most(grove(), w)
		if many := pipesOf(w, nil, 0).flows(); e != api.OK || len(plan) != many {
			t.Fatal(w, plan, e, many)
		}
		c := wantProven(t, w, plan)
		wantFirst(t, w, plan)
		if len(c.Spathes) > 0 && len(c.Hours) > 0 && len(c.Lots) > 0 {
			mixed++
		}
		if len(c.Lots) > 2 {
			open++
		}
	}
	if mixed < 100 || open < 100 {
		t.Error("too few of a kind:", mixed, open)
	}
}

// TestWheneverASpatheCameOut throws the true hours in which spathes came out (P7.5).
func TestWheneverASpatheCameOut(t *testing.T) {
	d, pollinated, last := &dice{7}, 0, 0
	for range 3000 {
		w := thrownWork(d, wide())
		plan, e := palm.Most(grove(), w)
		if e != api.OK {
			t.Fatal(w, e)
		}
		hours, units := map[int]int{}, map[int]int{}
		for _, x := range plan {
			cracks, hour, from := w.Spathes[x.Spathe].Cracks, w.Hours[x.Hour], w.Lots[x.Lot]
			for _, out := range ints(cracks.Lo, cracks.Hi, d.from(cracks.Lo, cracks.Hi)) {
				if hour < out || hour >= out+w.Open {
					t.Fatal(w, plan, x, out)
				}
				if hour == out || hour == out+w.Open-1 {
					last++
				}
			}
			if hour < from.From || hour >= from.To {
				t.Fatal(w, plan, x)
			}
			hours[hour]++
			units[x.Lot]++
			if hours[hour] > 1 || units[x.Lot] > from.Units {
				t.Fatal(w, plan, x)
			}
			pollinated++
		}
	}
	if pollinated < 3000 || last < 1000 {
		t.Error("too few of a kind:", pollinated, last)
	}
}

// TestMoreIsNoFewer adds hours, spathes and units (P7.6).
func TestMoreIsNoFewer(t *testing.T) {
	d, changes := &dice{8}, [3]int{}
	for range 4000 {
		w := thrownWork(d, size{7, 14, 4, 2, 40})
		was, e := palm.Most(grove(), w)
		if e != api.OK {
			t.Fatal(w, e)
		}
		more, spathe, units := w, w, w
		if h := d.from(0, 40); !slices.Contains(w.Hours, h) {
			more.Hours = append(slices.Clone(w.Hours), h)
			slices.Sort(more.Hours)
		}
		at, other := d.from(0, len(w.Spathes)), api.Spathe{Palm: 1, Cracks: thrownSpan(d, 40, d.from(0, w.Open))}
		spathe.Spathes = slices.Insert(slices.Clone(w.Spathes), at, other)
		n := 0
		if len(w.Lots) > 0 {
			n = d.from(1, 5)
			units.Lots = slices.Clone(w.Lots)
			units.Lots[d.from(0, len(w.Lots)-1)].Units += n
		}
		for i, x := range []struct {
			w    api.Work
			most int
		}{{more, 1}, {spathe, 1}, {units, n}} {
			is, e := palm.Most(grove(), x.w)
			if e != api.OK || len(is) < len(was) || len(is) > len(was)+x.most {
				t.Fatal(w, was, x, is, e)
			}
			if len(is) > len(was) {
				changes[i]++
			}
		}
	}
	if slices.Min(changes[:]) < 200 {
		t.Error("too few changes:", changes)
	}
}

// spare returns a list with more room than it needs, full of something else.
func spare[T any](list []T, other T) []T {
	long := append(slices.Clone(list), other, other, other)
	return long[:len(list)]
}

// kept tells whether a list is still what it was, with the room behind it.
func kept[T comparable](list, was []T, other T) bool {
	return slices.Equal(list[:len(was)+3], append(slices.Clone(was), other, other, other))
}

// TestArgumentsStay checks that nothing is written to arguments, nor to the room behind them, and that results are new.
func TestArgumentsStay(t *testing.T) {
	d, otherPalm, otherSpathe, otherLot := &dice{9}, tree(-7, 0, 0), api.Spathe{Palm: -7}, lot(-7, 0, 0)
	for range 300 {
		was := thrownWork(d, wide())
		w, l := was, spare(grove(), otherPalm)
		w.Spathes, w.Hours, w.Lots = spare(was.Spathes, otherSpathe), spare(was.Hours, 99), spare(was.Lots, otherLot)
		known, _, _ := palm.Known(l)
		clones, _ := palm.Clones(l, 1)
		slots, _ := palm.Slots(l, w)
		plan, _ := palm.Most(l, w)
		proof, e := palm.Proof(l, w)
		c := cover(spare(proof.Spathes, 99), spare(proof.Hours, 99), spare(proof.Lots, 99))
		if many, f := palm.Proves(l, w, c); many != len(plan) || e != api.OK || f != api.OK {
			t.Error(w, plan, c, many, e, f)
		}
		if !kept(c.Spathes, proof.Spathes, 99) || !kept(c.Hours, proof.Hours, 99) || !kept(c.Lots, proof.Lots, 99) {
			t.Error(w, proof, c)
		}
		// What is written to a result changes neither an argument nor another result.
		results := append(slices.Clone(slots), clones, proof.Spathes, proof.Hours, proof.Lots)
		for i, list := range results {
			_ = append(list, 71, 72, 73)
			for k := range list {
				list[k] = 1000*i + k
			}
		}
		for i, list := range results {
			for k := range list {
				if list[k] != 1000*i+k {
					t.Error(w, results)
				}
			}
		}
		_ = append(known, tree(71, 0, 0))
		_ = append(plan, dust(71, 0, 0))
		clear(known)
		clear(plan)
		if !kept(l, grove(), otherPalm) || !kept(w.Spathes, was.Spathes, otherSpathe) || !kept(w.Hours, was.Hours, 99) || !kept(w.Lots, was.Lots, otherLot) {
			t.Error(l, was, w)
		}
	}
	TestExamples(t)
}

// TestAnyValue calls all functions with numbers from everywhere: each call ends, tells nothing beside an error, and all agree on what is valid.
func TestAnyValue(t *testing.T) {
	d, counts := &dice{10}, map[[2]int]int{}
	strange := [...]int{math.MinInt, math.MinInt + 1, math.MinInt + 1500, -2, -1, 0, 1, 2, 3, 99, 100, 101, 500, 501, 999, 1000, 1499, 1500, mostId, mostId + 1, mostDay, mostDay + 1, mostHour, mostHour + 1, math.MaxInt - 1500, math.MaxInt - 1, math.MaxInt}
	odd := func(n int) int {
		if d.from(0, 60) == 0 {
			return strange[d.from(0, len(strange)-1)]
		}
		return n
	}
	note := func(which int, e api.Errno, nothing bool) {
		counts[[2]int{which, int(e)}]++
		if e != api.OK && !nothing {
			t.Error("something beside an error:", which, e)
		}
	}
	for range 20000 {
		l := palms(tree(odd(1), female, odd(0)), api.Palm{Id: odd(2), Mother: odd(1), Planted: odd(1200), Sex: uint8(odd(0)), Sort: odd(7)}, tree(odd(5), male, 0), shoot(odd(6), odd(2), odd(2200), uint8(d.from(0, 20)/10), odd(7)))
		w := work(ints(odd(15), odd(22), odd(45)), lots(lot(odd(2), odd(0), odd(50))), span(odd(10), odd(20)), span(odd(12), odd(14)))
		w.Day, w.Open, w.Lots[0].Palm, w.Spathes[1].Palm = odd(4000), odd(30), odd(5), odd(2)
		c := cover(ints(odd(0), odd(1)), ints(odd(0), odd(1), odd(2)), ints(odd(0)))
		check := palm.Check(l)
		note(0, check, true)
		known, at, e := palm.Known(l)
		note(1, e, len(known) == 0 && (at == 0 || e == api.ErrClone))
		clones, f := palm.Clones(l, odd(2))
		note(2, f, len(clones) == 0)
		slots, g := palm.Slots(l, w)
		note(3, g, len(slots) == 0)
		plan, h := palm.Most(l, w)
		note(4, h, len(plan) == 0)
		proof, i := palm.Proof(l, w)
		note(5, i, isCover(proof, api.Cover{}))
		many, j := palm.Proves(l, w, c)
		note(6, j, many == 0)
		invalid := check != api.OK
		if (e == api.ErrPalms) != invalid || (f == api.ErrPalms) != invalid || (g == api.ErrPalms) != invalid || (e == api.ErrClone) != (g == api.ErrClone) || g != h || g != i || g != j && (g != api.OK || j != api.ErrCover) {
			t.Error(l, w, c, e, f, g, h, i, j)
		}
	}
	for which, errors := range [][]api.Errno{
		{api.OK, api.ErrPalms}, {api.OK, api.ErrPalms, api.ErrClone}, {api.OK, api.ErrPalms, api.ErrNone},
		{api.OK, api.ErrPalms, api.ErrClone, api.ErrWork}, {api.OK, api.ErrPalms, api.ErrClone, api.ErrWork}, {api.OK, api.ErrPalms, api.ErrClone, api.ErrWork}, {api.OK, api.ErrPalms, api.ErrClone, api.ErrWork, api.ErrCover},
	} {
		for _, e := range errors {
			if counts[[2]int{which, int(e)}] < 100 {
				t.Error("too few of a kind:", which, e, counts)
			}
			delete(counts, [2]int{which, int(e)})
		}
	}
	if len(counts) > 0 {
		t.Error("errors that no function has:", counts)
	}
}
