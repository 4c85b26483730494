package salt_test

import (
	"math"
	"math/big"
	"slices"
	"testing"

	"aflaj/api"
	"aflaj/channel"
	"aflaj/salt"
)

// dice are numbers that look thrown, and are the same in every run.
type dice struct{ state uint64 }

// from returns a number from low to high.
func (d *dice) from(low, high int) int {
	d.state = d.state*6364136223846793005 + 1442695040888963407
	return low + int((d.state>>33)%uint64(high-low+1))
}

// span returns a span from 0 to most: now and then one number alone.
func (d *dice) span(most int) api.Span {
	lo, hi := d.from(0, most), d.from(0, most)
	if d.from(0, 3) == 0 {
		hi = lo
	}
	return span(min(lo, hi), max(lo, hi))
}

// any returns a number of a span that need not be whole: often one of its ends.
func (d *dice) any(s api.Span) *big.Rat {
	switch d.from(0, 3) {
	case 0:
		return whole(s.Lo)
	case 1:
		return whole(s.Hi)
	}
	return big.NewRat(int64(7*s.Lo+d.from(0, 7*(s.Hi-s.Lo))), 7)
}

func whole(n int) *big.Rat { return big.NewRat(int64(n), 1) }

func plus(a, b *big.Rat) *big.Rat { return new(big.Rat).Add(a, b) }

func minus(a, b *big.Rat) *big.Rat { return new(big.Rat).Sub(a, b) }

// grams returns litres times milligrams.
func grams(litres, milligrams *big.Rat) *big.Rat {
	return new(big.Rat).Mul(new(big.Rat).Mul(litres, milligrams), big.NewRat(1, 1000))
}

// notBelow returns a number, or 0 if that is more.
func notBelow(a *big.Rat) *big.Rat {
	if a.Sign() < 0 {
		return new(big.Rat)
	}
	return a
}

// floor rounds a number down, and ceiling rounds it up.
func floor(a *big.Rat) int { return int(new(big.Int).Div(a.Num(), a.Denom()).Int64()) }

func ceiling(a *big.Rat) int { return -floor(new(big.Rat).Neg(a)) }

// cycled is, in the chapter's words, the salt after a cycle, if all is known.
func cycled(was, water *big.Rat, crop int, mineral, wash, rise *big.Rat) *big.Rat {
	above := notBelow(minus(water, whole(crop)))
	return notBelow(minus(plus(plus(was, grams(water, mineral)), rise), grams(above, wash)))
}

// thrownSoil throws a soil, of numbers of a gram or of many.
func thrownSoil(d *dice) api.Soil {
	size := []int{3, 100, 10000}[d.from(0, 2)]
	return api.Soil{
		Salt:    d.span(size),
		Limit:   d.from(0, 2*size),
		Crop:    d.from(0, size),
		Mineral: d.span(d.from(0, 2000)),
		Wash:    d.span(d.from(0, 3000)),
		Rise:    d.span(d.from(0, size)),
	}
}

// thrownWater throws what comes to a soil: much of it near Crop.
func thrownWater(d *dice, s api.Soil) api.Span {
	if d.from(0, 1) == 0 {
		return d.span(4*s.Crop + 3)
	}
	return span(max(0, s.Crop-d.from(0, 5)), s.Crop+d.from(0, 5))
}

// within tells whether a number lies in a span.
func within(n *big.Rat, s api.Span) bool {
	return n.Cmp(whole(s.Lo)) >= 0 && n.Cmp(whole(s.Hi)) <= 0
}

// TestWhateverIsInTheSoil follows true salts (P6.1, P6.6).
func TestWhateverIsInTheSoil(t *testing.T) {
	d, none, some := &dice{1}, 0, 0
	for range 6000 {
		s := thrownSoil(d)
		water := thrownWater(d, s)
		told, e := salt.After(s, water, d.from(0, 6))
		if e != api.OK {
			t.Fatal(s, water, e)
		}
		for range 5 {
			is := d.any(s.Salt)
			for i, want := range told {
				is = cycled(is, d.any(water), s.Crop, d.any(s.Mineral), d.any(s.Wash), d.any(s.Rise))
				if !within(is, want) {
					t.Fatal(s, water, i, is, want)
				}
				if is.Sign() == 0 {
					none++
				} else {
					some++
				}
			}
		}
	}
	if none < 2000 || some < 2000 {
		t.Error("too few of a kind:", none, some)
	}
}

// corners yields the salt after a cycle for all ends of what is known, and for Crop as water.
func corners(s api.Soil, water api.Span, yield func(*big.Rat)) {
	ends := func(s api.Span) []*big.Rat { return []*big.Rat{whole(s.Lo), whole(s.Hi)} }
	waters := ends(water)
	if water.Lo < s.Crop && s.Crop < water.Hi {
		waters = append(waters, whole(s.Crop))
	}
	for _, was := range ends(s.Salt) {
		for _, w := range waters {
			for _, mineral := range ends(s.Mineral) {
				for _, wash := range ends(s.Wash) {
					for _, rise := range ends(s.Rise) {
						yield(cycled(was, w, s.Crop, mineral, wash, rise))
					}
				}
			}
		}
	}
}

// TestNothingIsToldWider tries the ends of all that is known (P6.1).
func TestNothingIsToldWider(t *testing.T) {
	d := &dice{2}
	for range 3000 {
		s := thrownSoil(d)
		water := thrownWater(d, s)
		told, e := salt.After(s, water, 3)
		if len(told) != 3 || e != api.OK {
			t.Fatal(s, water, told, e)
		}
		for i, got := range told {
			least, most := math.MaxInt, 0
			corners(s, water, func(is *big.Rat) { least, most = min(least, floor(is)), max(most, ceiling(is)) })
			if got != span(least, most) {
				t.Fatal(s, water, i, got, least, most)
			}
			s.Salt = got
		}
	}
}

// TestMoreSaltIsNotLess checks that more salt, or more that rises, is no less, and more that is washed down is no more (P6.6).
func TestMoreSaltIsNotLess(t *testing.T) {
	d, changes := &dice{3}, [4]int{}
	for range 3000 {
		s := thrownSoil(d)
		water := thrownWater(d, s)
		was, _ := salt.After(s, water, 4)
		more := func(s api.Span) api.Span {
			lo := s.Lo + d.from(0, 9)
			return span(lo, max(lo, s.Hi)+d.from(0, 9))
		}
		for kind := range changes {
			other, sign := s, 1
			switch kind {
			case 0:
				other.Salt = more(s.Salt)
			case 1:
				other.Rise = more(s.Rise)
			case 2:
				other.Mineral = more(s.Mineral)
			case 3:
				other.Wash = more(s.Wash)
				sign = -1
			}
			is, e := salt.After(other, water, 4)
			if len(is) != 4 || e != api.OK {
				t.Fatal(other, water, is, e)
			}
			for i := range is {
				if sign*(is[i].Lo-was[i].Lo) < 0 || sign*(is[i].Hi-was[i].Hi) < 0 {
					t.Fatal(s, other, water, was, is)
				}
				if is[i] != was[i] {
					changes[kind]++
				}
			}
		}
	}
	if slices.Min(changes[:]) < 1000 {
		t.Error("too few changes:", changes)
	}
}

// isGood tells whether palms live with so much water, and the salt is for sure at most the limit.
func isGood(s api.Soil, water int) bool {
	most := new(big.Rat)
	corners(s, one(water), func(is *big.Rat) {
		if is.Cmp(most) > 0 {
			most = is
		}
	})
	return water >= s.Crop && most.Cmp(whole(s.Limit)) <= 0
}

// TestNeedIsLeast checks what is needed, and a litre less (P6.2, P6.7).
func TestNeedIsLeast(t *testing.T) {
	d, crop, more, none := &dice{4}, 0, 0, 0
	for range 6000 {
		s := thrownSoil(d)
		need, e := salt.Need(s)
		switch {
		case e == api.ErrNone && need == 0:
			none++
			// What is wrong with Crop is wrong with all water if more of it washes down no more than it brings.
			for _, water := range ints(s.Crop, s.Crop+1, s.Crop+d.from(0, 1000000), mostWater-1, mostWater) {
				if isGood(s, water) {
					t.Fatal(s, water)
				}
			}
		case e != api.OK || !isGood(s, need) || isGood(s, need-1):
			t.Fatal(s, need, e)
		case need == s.Crop:
			crop++
		default:
			more++
			if after, _ := salt.After(s, one(need), 1); after[0].Hi > s.Limit {
				t.Fatal(s, need, after)
			}
		}
	}
	if crop < 1000 || more < 1000 || none < 1000 {
		t.Error("too few of a kind:", crop, more, none)
	}
}

// TestNeedOfAllWaters tries all waters from 0 on (P6.2).
func TestNeedOfAllWaters(t *testing.T) {
	d, found := &dice{5}, 0
	for range 300 {
		s := api.Soil{Salt: d.span(9), Limit: d.from(0, 12), Crop: d.from(0, 9), Mineral: d.span(1500), Wash: d.span(3000), Rise: d.span(4)}
		need, e := salt.Need(s)
		for water := range 60 {
			good := isGood(s, water)
			if good && (e != api.OK || water < need) || e == api.OK && water == need && !good {
				t.Fatal(s, water, need, e)
			}
			if good {
				found++
				break
			}
		}
	}
	if found < 100 {
		t.Error("too few needs:", found)
	}
}

// thrownMarket throws needs, and rents for them.
func thrownMarket(d *dice, mostNeeds, mostRents, mostMinutes, mostPrice int) ([]int, []api.Rent) {
	var needs []int
	var l []api.Rent
	for range d.from(0, mostNeeds) {
		needs = append(needs, max(0, d.from(-1, mostMinutes)))
	}
	for range d.from(0, mostRents) {
		r := rent(d.from(0, mostMinutes+mostMinutes/2), d.from(0, mostPrice))
		for f := range needs {
			if d.from(0, 2) > 0 {
				r.Fields = append(r.Fields, f)
			}
		}
		l = append(l, r)
	}
	return needs, l
}

// isPlan tells, in the chapter's words, whether minutes are a plan, and what it costs.
func isPlan(needs []int, l []api.Rent, plan [][]int) (bool, int) {
	if len(plan) != len(l) {
		return false, 0
	}
	gets, cost := make([]int, len(needs)), 0
	for r, row := range plan {
		if len(row) != len(needs) {
			return false, 0
		}
		left := l[r].Minutes
		for f, n := range row {
			if n < 0 || n > 0 && !slices.Contains(l[r].Fields, f) {
				return false, 0
			}
			left -= n
			gets[f] += n
			cost += n * l[r].Price
		}
		if left < 0 {
			return false, 0
		}
	}
	return slices.Equal(gets, needs), cost
}

// tried returns the first of the cheapest plans, of all there are, and how many of them cost as much.
func tried(needs []int, l []api.Rent) (best [][]int, cost, same int) {
	left := slices.Clone(needs)
	plan := make([][]int, len(l))
	for r := range plan {
		plan[r] = make([]int, len(needs))
	}
	var try func(r, f, minutes, costs int)
	try = func(r, f, minutes, costs int) {
		switch {
		case r == len(l):
			if slices.Max(append(left, 0)) > 0 || same > 0 && costs > cost {
				return
			}
			if same == 0 || costs < cost {
				best, cost, same = nil, costs, 0
				for _, row := range plan {
					best = append(best, slices.Clone(row))
				}
			}
			same++
		case f == len(needs):
			next := 0
			if r+1 < len(l) {
				next = l[r+1].Minutes
			}
			try(r+1, 0, next, costs)
		default:
			most := 0
			if slices.Contains(l[r].Fields, f) {
				most = min(minutes, left[f])
			}
			for n := most; n >= 0; n-- {
				plan[r][f] = n
				left[f] -= n
				try(r, f+1, minutes-n, costs+n*l[r].Price)
				left[f] += n
			}
			plan[r][f] = 0
		}
	}
	minutes := 0
	if len(l) > 0 {
		minutes = l[0].Minutes
	}
	try(0, 0, minutes, 0)
	return best, cost, same
}

// lacking tells, in the chapter's words, whether fields lack minutes together.
func lacking(needs []int, l []api.Rent, fields []int) bool {
	lacks := 0
	for _, f := range fields {
		lacks += needs[f]
	}
	for _, r := range l {
		if slices.ContainsFunc(r.Fields, func(f int) bool { return slices.Contains(fields, f) }) {
			lacks -= r.Minutes
		}
	}
	return lacks > 0
}

// firstLack tries lists of more and more fields, the first ones first.
func firstLack(needs []int, l []api.Rent) []int {
	var find func(fields []int, more int) []int
	find = func(fields []int, more int) []int {
		if more == 0 {
			if lacking(needs, l, fields) {
				return slices.Clone(fields)
			}
			return nil
		}
		from := 0
		if len(fields) > 0 {
			from = fields[len(fields)-1] + 1
		}
		for f := from; f < len(needs); f++ {
			if found := find(append(fields, f), more-1); found != nil {
				return found
			}
		}
		return nil
	}
	for many := 1; many <= len(needs); many++ {
		if found := find(nil, many); found != nil {
			return found
		}
	}
	return nil
}

// TestAllPlans tries all plans, and all lists of fields (P6.4, P6.5, P6.8, P6.9).
func TestAllPlans(t *testing.T) {
	d, several, none := &dice{6}, 0, 0
	for range 10000 {
		needs, l := thrownMarket(d, 3, 3, 4, 3)
		want, cost, same := tried(needs, l)
		if same > 0 {
			wantPlan(t, needs, l, cost, want...)
		} else {
			wantLack(t, needs, l, firstLack(needs, l)...)
			none++
		}
		if same > 1 {
			several++
		}
	}
	if several < 500 || none < 500 {
		t.Error("too few of a kind:", several, none)
	}
}

// step is that something may be done once more, from a node to another one, and what that is worth.
type step struct {
	from, to int
	worth    *big.Int
}

// steps returns what a plan may be changed by: what rents give is taken from the node 0.
func steps(l []api.Rent, plan [][]int) []step {
	var all []step
	for r, row := range plan {
		used := 0
		for f, n := range row {
			used += n
			if !slices.Contains(l[r].Fields, f) {
				continue
			}
			// A baisa is worth more than all that tells plans of one cost apart, and a minute there more than all minutes that come later.
			worth := new(big.Int).Lsh(big.NewInt(int64(l[r].Price)), 80)
			worth.Sub(worth, new(big.Int).Lsh(big.NewInt(1), uint(64-8*r-f)))
			all = append(all, step{1 + r, 9 + f, worth})
			if n > 0 {
				all = append(all, step{9 + f, 1 + r, new(big.Int).Neg(worth)})
			}
		}
		if used < l[r].Minutes {
			all = append(all, step{0, 1 + r, new(big.Int)})
		}
		if used > 0 {
			all = append(all, step{1 + r, 0, new(big.Int)})
		}
	}
	return all
}

// isBest tells whether nothing can be made better by steps that lead back to where they began: then there is no better plan at all.
func isBest(l []api.Rent, plan [][]int) bool {
	all := steps(l, plan)
	var least [17]*big.Int
	for i := range least {
		least[i] = new(big.Int)
	}
	for range least {
		better := false
		for _, s := range all {
			if n := new(big.Int).Add(least[s.from], s.worth); n.Cmp(least[s.to]) < 0 {
				least[s.to], better = n, true
			}
		}
		if !better {
			return true
		}
	}
	return false
}

// TestNoPlanIsBetter looks for something better than what is found, or for the proof that there is none (P6.4, P6.5, P6.8, P6.9).
func TestNoPlanIsBetter(t *testing.T) {
	d, plans, none, wide := &dice{7}, 0, 0, 0
	for range 800 {
		needs, l := thrownMarket(d, 8, 8, []int{9, 300, 1900}[d.from(0, 2)], []int{0, 2, 9, 100000}[d.from(0, 3)])
		plan, cost, e := salt.Plan(needs, l)
		if e == api.ErrLack {
			wantLack(t, needs, l, firstLack(needs, l)...)
			none++
			continue
		}
		if is, costs := isPlan(needs, l, plan); e != api.OK || !is || costs != cost || !isBest(l, plan) {
			t.Fatal(needs, l, plan, cost, e, is, costs)
		}
		if lack, e := salt.Lack(needs, l); len(lack) > 0 || e != api.ErrNone {
			t.Fatal(needs, l, lack, e)
		}
		plans++
		if len(needs) > 4 && len(l) > 4 {
			wide++
		}
	}
	if plans < 200 || none < 200 || wide < 50 {
		t.Error("too few of a kind:", plans, none, wide)
	}
}

// thrownTight throws a market in which what rents have is nearly what is needed, or a little less.
func thrownTight(d *dice) ([]int, []api.Rent) {
	needs := make([]int, 8)
	var l []api.Rent
	for range d.from(4, 8) {
		r := rent(0, d.from(0, 9))
		for f := range needs {
			if d.from(0, 3) == 0 {
				r.Fields = append(r.Fields, f)
				gets := d.from(0, 300)
				needs[f] += gets
				r.Minutes += gets
			}
		}
		l = append(l, r)
	}
	for range d.from(0, 3) {
		f := d.from(0, 7)
		needs[f] = max(0, needs[f]+d.from(-2, 3))
	}
	return needs, l
}

// TestLackOfMany tries lists of fields of the widest markets (P6.5, P6.8).
func TestLackOfMany(t *testing.T) {
	d, many := &dice{8}, [9]int{}
	for range 3000 {
		needs, l := thrownTight(d)
		want := firstLack(needs, l)
		many[len(want)]++
		if want != nil {
			wantLack(t, needs, l, want...)
			continue
		}
		plan, cost, e := salt.Plan(needs, l)
		if is, costs := isPlan(needs, l, plan); e != api.OK || !is || costs != cost || !isBest(l, plan) {
			t.Fatal(needs, l, plan, cost, e, is, costs)
		}
	}
	if slices.Min(many[:]) < 50 {
		t.Error("too few of a kind:", many)
	}
}

// TestMoreCostsNoMore changes markets (P6.9).
func TestMoreCostsNoMore(t *testing.T) {
	d, changes := &dice{9}, [4]int{}
	for range 1500 {
		needs, l := thrownMarket(d, 5, 5, 60, 30)
		_, was, e := salt.Plan(needs, l)
		if e != api.OK || len(needs) == 0 || len(l) == 0 {
			continue
		}
		f, r := d.from(0, len(needs)-1), d.from(0, len(l)-1)
		more, less, full, cheap := slices.Clone(needs), slices.Clone(needs), slices.Clone(l), slices.Clone(l)
		more[f] += d.from(1, 9)
		less[f] -= min(less[f], d.from(1, 9))
		full[r].Minutes += d.from(1, 9)
		cheap[r].Price -= min(cheap[r].Price, d.from(1, 9))
		other := append(slices.Clone(l), rent(d.from(1, 30), d.from(0, 9), f))
		for i, x := range []struct {
			needs []int
			rents []api.Rent
		}{{less, l}, {needs, full}, {needs, other}, {needs, cheap}} {
			_, is, e := salt.Plan(x.needs, x.rents)
			if e != api.OK || is > was {
				t.Fatal(needs, l, was, x, is, e)
			}
			if is < was {
				changes[i]++
			}
		}
		if _, is, e := salt.Plan(more, l); e == api.OK && is < was || e != api.OK && e != api.ErrLack {
			t.Fatal(needs, l, was, more, is, e)
		}
	}
	if slices.Min(changes[:]) < 100 {
		t.Error("too few changes:", changes)
	}
}

// thrownNet throws a net of some fields, with days enough.
func thrownNet(d *dice, fields int) api.Net {
	n := api.Net{Dry: d.from(0, 400), Days: d.from(1, 16)}
	for i := range 8 {
		n.Canals = append(n.Canals, api.Canal{From: max(0, i-d.from(0, 3)), Seep: d.span(d.from(0, 300)), Fill: d.span(d.from(0, 400))})
	}
	for node := range fields {
		n.Fields = append(n.Fields, 8-node)
	}
	return n
}

// turns returns the uses of what each field gets of a plan, one after the other.
func turns(plan [][]int, fields int) []api.Use {
	var uses []api.Use
	from := 0
	for f := range fields {
		to := from
		for _, row := range plan {
			to += row[f]
		}
		if to > from {
			uses = append(uses, api.Use{Field: f, Turn: api.Turn{From: from, To: to}})
		}
		from = to
	}
	return uses
}

// TestFromTheMinutesToTheSalt uses plans (P6.3, P6.10).
func TestFromTheMinutesToTheSalt(t *testing.T) {
	d, used, none := &dice{10}, 0, 0
	for range 4000 {
		n := thrownNet(d, d.from(1, 6))
		flow := span(d.from(20, 60), d.from(60, 90))
		var soils []api.Soil
		for range n.Fields {
			soils = append(soils, thrownSoil(d))
		}
		wants, at, e := salt.Wants(n, flow, soils)
		want, wantAt := eachWants(n, flow, soils)
		if !slices.Equal(wants, want) || at != wantAt || (e == api.ErrNone) != (want == nil) {
			t.Fatal(n, flow, soils, wants, at, e, want, wantAt)
		}
		if e != api.OK {
			none++
			continue
		}
		l := rents(rent(2000, 3), rent(3000, 5), rent(n.Days*1440-5000, 8))
		for i := range l {
			l[i].Minutes = max(0, l[i].Minutes)
			for f := range n.Fields {
				if i == 2 || d.from(0, 1) == 0 {
					l[i].Fields = append(l[i].Fields, f)
				}
			}
		}
		plan, _, e := salt.Plan(wants, l)
		uses := turns(plan, len(n.Fields))
		if e != api.OK || len(uses) > 0 && uses[len(uses)-1].Turn.To > n.Days*1440 {
			continue
		}
		used++
		gets, _, e := channel.Waters(n, flow, uses)
		if e != api.OK {
			t.Fatal(n, flow, uses, e)
		}
		for f, s := range soils {
			need, _ := salt.Need(s)
			if gets[f].Lo < need {
				t.Fatal(n, flow, soils, uses, gets, f, need)
			}
			// More than is needed does no harm unless it brings more than it washes down.
			water := one(need)
			if s.Mineral.Hi <= s.Wash.Lo {
				water = gets[f]
			}
			if after, e := salt.After(s, water, 1); e != api.OK || after[0].Hi > s.Limit {
				t.Fatal(s, water, after, e)
			}
		}
	}
	if used < 300 || none < 300 {
		t.Error("too few of a kind:", used, none)
	}
}

// eachWants asks for each field alone.
func eachWants(n api.Net, flow api.Span, soils []api.Soil) ([]int, int) {
	wants := []int{}
	for f, s := range soils {
		need, e := salt.Need(s)
		if e != api.OK {
			return nil, f
		}
		minutes, e := channel.Minutes(n, flow, f, need)
		if e != api.OK {
			return nil, f
		}
		wants = append(wants, minutes)
	}
	return wants, 0
}

// spare returns a list with more room than it needs, full of something else.
func spare[T any](list []T, other T) []T {
	long := append(slices.Clone(list), other, other, other)
	return long[:len(list)]
}

// kept tells whether a list is still what it was, with the room behind it.
func kept[T comparable](list, was []T, other T) bool {
	return slices.Equal(list[:len(was)+3], append(slices.Clone(was), other, other, other))
}

// TestArgumentsStay checks that nothing is written to arguments, nor to the room behind them, and that results are new.
func TestArgumentsStay(t *testing.T) {
	d, otherSoil, otherCanal := &dice{11}, api.Soil{Limit: -7}, api.Canal{From: -7}
	for range 200 {
		wasNeeds, wasRents := thrownMarket(d, 5, 5, 60, 4)
		needs, l := spare(wasNeeds, 99), spare(wasRents, rent(91, 92, 93))
		for i := range l {
			l[i].Fields = spare(wasRents[i].Fields, 99)
		}
		was := thrownNet(d, 4)
		wasSoils := []api.Soil{example(), thirsty(9), {}, thirsty(d.from(0, 99))}
		n, soils := was, spare(wasSoils, otherSoil)
		n.Canals, n.Fields = spare(was.Canals, otherCanal), spare(was.Fields, 99)
		plan, _, e := salt.Plan(needs, l)
		lack, _ := salt.Lack(needs, l)
		wants, _, _ := salt.Wants(n, one(60), soils)
		// What is written to a result changes neither an argument nor another result.
		for i, list := range append(slices.Clone(plan), lack, wants) {
			_ = append(list, 71, 72, 73)
			for k := range list {
				list[k] = 1000*i + k
			}
		}
		for i, row := range plan {
			for k := range row {
				if row[k] != 1000*i+k {
					t.Error(wasNeeds, wasRents, plan)
				}
			}
		}
		for i := range l {
			if !kept(l[i].Fields, wasRents[i].Fields, 99) || l[i].Minutes != wasRents[i].Minutes || l[i].Price != wasRents[i].Price {
				t.Error(wasRents, l)
			}
		}
		behind := l[:len(l)+1][len(l)]
		if !kept(needs, wasNeeds, 99) || !kept(soils, wasSoils, otherSoil) || !kept(n.Canals, was.Canals, otherCanal) || !kept(n.Fields, was.Fields, 99) || behind.Minutes != 91 || behind.Fields[0] != 93 {
			t.Error(wasNeeds, wasRents, needs, l, soils, n)
		}
		if again, _, f := salt.Plan(wasNeeds, wasRents); e == api.OK {
			if is, _ := isPlan(wasNeeds, wasRents, again); !is || f != e {
				t.Error(wasNeeds, wasRents, again, f)
			}
		}
	}
	after, _ := salt.After(example(), one(10000), 2)
	_ = append(after, one(71), one(72))
	clear(after)
	TestExamples(t)
}

// TestAnyValue calls all functions with numbers from everywhere: each call ends, tells nothing beside an error, and all agree on what is valid.
func TestAnyValue(t *testing.T) {
	d, counts := &dice{12}, map[[2]int]int{}
	strange := [...]int{math.MinInt, math.MinInt + 1, -1, 0, 1, 999, 1000, 1001, 1440, 1441, cycle, cycle + 1, mostRate, mostRate + 1, mostFlow, mostFlow + 1, mostSalt, mostSalt + 1, mostWater, mostWater + 1, math.MaxInt - 1, math.MaxInt}
	throw := func() int {
		if d.from(0, 40) == 0 {
			return strange[d.from(0, len(strange)-1)]
		}
		return d.from(0, 2)
	}
	pair := func() api.Span {
		s := span(throw(), throw())
		if d.from(0, 9) > 0 {
			s = span(min(s.Lo, s.Hi), max(s.Lo, s.Hi))
		}
		return s
	}
	soil := func() api.Soil {
		return api.Soil{Salt: pair(), Limit: throw(), Crop: throw(), Mineral: pair(), Wash: pair(), Rise: pair()}
	}
	note := func(which int, e api.Errno, nothing bool) {
		counts[[2]int{which, int(e)}]++
		if e != api.OK && !nothing {
			t.Error("something beside an error:", which, e)
		}
	}
	for range 12000 {
		s, n := soil(), plain(2)
		n.Days = max(1, throw())
		invalid := salt.Check(s) != api.OK
		after, e := salt.After(s, pair(), throw())
		note(0, e, len(after) == 0)
		need, f := salt.Need(s)
		note(1, f, need == 0)
		wants, at, g := salt.Wants(n, pair(), []api.Soil{s, {}})
		note(2, g, len(wants) == 0 && (at == 0 || g == api.ErrNone))
		if (e == api.ErrSoil) != invalid || (f == api.ErrSoil) != invalid || invalid && g != api.ErrSoils && g != api.ErrFlow && g != api.ErrNet {
			t.Error(s, e, f, g)
		}
		needs, l := ints(throw(), throw()), rents(rent(throw(), throw(), throw()), rent(2*throw(), throw(), 0, max(throw(), 1)))
		plan, cost, e := salt.Plan(needs, l)
		note(3, e, len(plan) == 0 && cost == 0)
		lack, f := salt.Lack(needs, l)
		note(4, f, len(lack) == 0)
		if (e == api.ErrRents) != (f == api.ErrRents) || (e == api.OK) != (f == api.ErrNone) {
			t.Error(needs, l, e, f)
		}
	}
	for which, errors := range [][]api.Errno{
		{api.OK, api.ErrSoil, api.ErrArg}, {api.OK, api.ErrSoil, api.ErrNone}, {api.OK, api.ErrNet, api.ErrFlow, api.ErrSoils, api.ErrNone},
		{api.OK, api.ErrRents, api.ErrLack}, {api.OK, api.ErrRents, api.ErrNone},
	} {
		for _, e := range errors {
			if counts[[2]int{which, int(e)}] < 100 {
				t.Error("too few of a kind:", which, e, counts)
			}
			delete(counts, [2]int{which, int(e)})
		}
	}
	if len(counts) > 0 {
		t.Error("errors that no function has:", counts)
	}
}
