package deed_test

import (
	"math"
	"slices"
	"testing"

	"aflaj/api"
	"aflaj/deed"
)

// dice are numbers that look thrown, and are the same in every run.
type dice struct{ state uint64 }

// from returns a number from low to high.
func (d *dice) from(low, high int) int {
	d.state = d.state*6364136223846793005 + 1442695040888963407
	return low + int((d.state>>33)%uint64(high-low+1))
}

// mixed returns a list in another order.
func mixed[T any](d *dice, list []T) []T {
	list = slices.Clone(list)
	for i := range list {
		j := d.from(0, i)
		list[i], list[j] = list[j], list[i]
	}
	return list
}

// thrownRolls throws rolls of a day or two, with short holds at the beginning, of the mosque and few people.
func thrownRolls(d *dice) api.Rolls {
	r := api.Rolls{Days: d.from(1, 2)}
	at := 0
	for range d.from(1, 5) {
		to := at + d.from(1, 12)
		r.Holds = append(r.Holds, hold(d.from(0, 5), at, to))
		at = to
	}
	r.Holds = append(r.Holds, hold(d.from(0, 5), at, r.Days*1440))
	return r
}

// part throws a turn of rolls: most often one within a hold of theirs.
func part(d *dice, r api.Rolls) api.Turn {
	if d.from(0, 6) == 0 {
		from := d.from(0, r.Days*1440-1)
		return turn(from, d.from(from+1, r.Days*1440))
	}
	of := r.Holds[d.from(0, len(r.Holds)-1)].Turn
	from := d.from(of.From, of.To-1)
	if d.from(0, 1) == 0 {
		from = of.From
	}
	to := d.from(from+1, of.To)
	if d.from(0, 1) == 0 {
		to = of.To
	}
	return turn(from, to)
}

// thrownDeed throws a valid deed of few people and days: most often of somebody who has minutes at first.
func thrownDeed(d *dice, r api.Rolls, id int) api.Deed {
	in := part(d, r)
	from := d.from(1, 5)
	for _, h := range r.Holds {
		if h.Turn.From <= in.From && in.To <= h.Turn.To && h.Who != 0 && d.from(0, 2) > 0 {
			from = h.Who
		}
	}
	to := from%6 + 1
	if d.from(0, 1) == 0 {
		to = (from+d.from(0, 4))%6 + 1
	}
	if to == from {
		to = 7
	}
	day := d.from(0, 9)
	switch d.from(0, 11) {
	case 0:
		heirs := []int{}
		for who := range 7 {
			if who+1 != from && d.from(0, 2) == 0 {
				heirs = append(heirs, who+1, d.from(1, 4))
			}
		}
		return death(id, day, from, append(heirs, 8, d.from(1, 9))...)
	case 1:
		return gift(id, day, from, in.From, in.To)
	case 2, 3, 4, 5, 6:
		return sale(id, day, from, to, in.From, in.To)
	}
	return rent(id, day, from, to, in.From, in.To, day+d.from(1, 5))
}

// thrownDeeds throws deeds with different Ids.
func thrownDeeds(d *dice, r api.Rolls, least, most int) []api.Deed {
	var l []api.Deed
	for i := range d.from(least, most) {
		l = append(l, thrownDeed(d, r, 3*i+d.from(0, 2)))
	}
	return mixed(d, l)
}

// let is that the minutes of a turn are somebody's to use from a day on, and before another one.
type let struct {
	to        int
	in        api.Turn
	from, til int
}

// tried is what becomes of rolls, minute by minute, in the chapter's words.
type tried struct {
	owner []int
	lets  []let
	dead  []int
}

func has(in api.Turn, minute int) bool { return in.From <= minute && minute < in.To }

// user returns who uses a minute on a day.
func (x tried) user(minute, day int) int {
	for _, l := range x.lets {
		if has(l.in, minute) && l.from <= day && day < l.til {
			return l.to
		}
	}
	return x.owner[minute]
}

// why returns why a deed is void.
func (x tried) why(d api.Deed) uint8 {
	if slices.Contains(x.dead, d.From) || (d.Kind == api.DeedSale || d.Kind == api.DeedRent) && slices.Contains(x.dead, d.To) {
		return api.VoidDead
	}
	if d.Kind == api.DeedDeath {
		return api.VoidNot
	}
	for minute, owner := range x.owner {
		if has(d.Turn, minute) && owner != d.From {
			return api.VoidHis
		}
	}
	for _, l := range x.lets {
		if d.Kind == api.DeedRent && l.in.From < d.Turn.To && d.Turn.From < l.in.To && l.from <= d.Day && d.Day < l.til {
			return api.VoidLet
		}
	}
	return api.VoidNot
}

// shared returns how many minutes each of several heirs gets: one is given again and again to somebody who has less than his parts rounded down, then to those of whom most was cut off.
func shared(n int, heirs []api.Heir) []int {
	all := 0
	for _, h := range heirs {
		all += h.Parts
	}
	gets, left := make([]int, len(heirs)), n
	for i, h := range heirs {
		for (gets[i]+1)*all <= n*h.Parts {
			gets[i]++
			left--
		}
	}
	order := make([]int, len(heirs))
	for i := range order {
		order[i] = i
	}
	slices.SortStableFunc(order, func(i, j int) int {
		return (n*heirs[j].Parts - gets[j]*all) - (n*heirs[i].Parts - gets[i]*all)
	})
	for _, i := range order[:left] {
		gets[i]++
	}
	return gets
}

// do does a deed that is not void.
func (x *tried) do(d api.Deed) {
	switch d.Kind {
	case api.DeedSale, api.DeedGift:
		for minute := d.Turn.From; minute < d.Turn.To; minute++ {
			x.owner[minute] = d.To
		}
	case api.DeedRent:
		x.lets = append(x.lets, let{d.To, d.Turn, d.Day, d.Until})
	case api.DeedDeath:
		x.dead = append(x.dead, d.From)
		x.lets = slices.DeleteFunc(x.lets, func(l let) bool { return l.to == d.From })
		heirs := slices.DeleteFunc(slices.Clone(d.Heirs), func(h api.Heir) bool { return slices.Contains(x.dead, h.Who) })
		if len(heirs) == 0 {
			heirs = []api.Heir{{Who: 0, Parts: 1}}
		}
		n := 0
		for _, owner := range x.owner {
			if owner == d.From {
				n++
			}
		}
		var gets []int
		for i, n := range shared(n, heirs) {
			gets = append(gets, slices.Repeat([]int{heirs[i].Who}, n)...)
		}
		for minute, owner := range x.owner {
			if owner == d.From {
				x.owner[minute], gets = gets[0], gets[1:]
			}
		}
	}
}

// try does all deeds of a list until a day, and returns those that were looked at, and why they are void.
func try(r api.Rolls, l []api.Deed, day int) (x tried, read []api.Deed, why []uint8) {
	for _, h := range r.Holds {
		x.owner = append(x.owner, slices.Repeat([]int{h.Who}, h.Turn.To-h.Turn.From)...)
	}
	left := slices.DeleteFunc(slices.Clone(l), func(d api.Deed) bool { return d.Day > day })
	for len(left) > 0 {
		first := left[0]
		for _, d := range left {
			if d.Day < first.Day || d.Day == first.Day && d.Id < first.Id {
				first = d
			}
		}
		left = slices.DeleteFunc(left, func(d api.Deed) bool { return d.Id == first.Id })
		is := x.why(first)
		if is == api.VoidNot {
			x.do(first)
		}
		read, why = append(read, first), append(why, is)
	}
	return x, read, why
}

// wantTried checks what is told of rolls on a day against what becomes of them minute by minute.
func wantTried(t *testing.T, d *dice, r api.Rolls, l []api.Deed, day int) {
	t.Helper()
	x, _, _ := try(r, l, day)
	var owns, uses []api.Hold
	add := func(list []api.Hold, who, minute int) []api.Hold {
		if len(list) > 0 && list[len(list)-1].Who == who {
			list[len(list)-1].Turn.To++
			return list
		}
		return append(list, hold(who, minute, minute+1))
	}
	n := map[int]int{}
	for minute, owner := range x.owner {
		owns, uses = add(owns, owner, minute), add(uses, x.user(minute, day), minute)
		n[owner]++
	}
	wantOwners(t, r, l, day, owns, uses)
	var shares []int
	for who := range 9 {
		if n[who] > 0 {
			shares = append(shares, who, n[who])
		}
	}
	wantShares(t, r, l, day, shares...)
	for range 3 {
		minute := d.from(0, len(x.owner)-1)
		wantAt(t, r, l, day, minute, x.owner[minute], x.user(minute, day), api.OK)
	}
}

// TestDeedsTried compares what is read, who owns and who uses with rolls that are gone through minute by minute.
func TestDeedsTried(t *testing.T) {
	d, whys, kinds, users := &dice{1}, [4]int{}, [5]int{}, 0
	for range 1500 {
		r := thrownRolls(d)
		l := thrownDeeds(d, r, 0, 14)
		_, read, why := try(r, l, 100000)
		wantRead(t, r, l, read, why...)
		for i, is := range why {
			whys[is]++
			if is == api.VoidNot {
				kinds[read[i].Kind]++
			}
		}
		for range 3 {
			day := d.from(0, 14)
			wantTried(t, d, r, l, day)
			if owns, uses, _ := deed.Owners(r, l, day); !slices.Equal(owns, uses) {
				users++
			}
		}
	}
	if slices.Min(whys[:]) < 100 || slices.Min(kinds[1:]) < 200 || users < 500 {
		t.Error("too few of a kind:", whys, kinds, users)
	}
}

// TestAnyOrder checks that deeds leave the same in whatever order they come, and however often; and that no minute belongs to two, or to nobody.
func TestAnyOrder(t *testing.T) {
	d := &dice{2}
	for range 500 {
		r := thrownRolls(d)
		l := thrownDeeds(d, r, 1, 20)
		day := d.from(0, 14)
		read, why, _ := deed.Read(r, l)
		owns, uses, _ := deed.Owners(r, l, day)
		shares, _ := deed.Shares(r, l, day)
		other := l
		for range d.from(0, 40) {
			other = append(other, l[d.from(0, len(l)-1)])
		}
		other = mixed(d, other)
		wantRead(t, r, other, read, why...)
		wantOwners(t, r, other, day, owns, uses)
		sum := 0
		var flat []int
		for _, s := range shares {
			sum += s.Minutes
			flat = append(flat, s.Who, s.Minutes)
		}
		wantShares(t, r, other, day, flat...)
		if sum != r.Days*1440 {
			t.Error(r, l, day, shares)
		}
		wantWhole(t, r, owns)
		wantWhole(t, r, uses)
	}
}

// wantWhole checks that holds are those of a whole cycle, each as long as may be.
func wantWhole(t *testing.T, r api.Rolls, l []api.Hold) {
	t.Helper()
	at, before := 0, -1
	for _, h := range l {
		if h.Turn.From != at || h.Turn.To <= at || h.Who == before {
			t.Error(r, l)
		}
		at, before = h.Turn.To, h.Who
	}
	if at != r.Days*1440 {
		t.Error(r, l)
	}
}

// TestLaterChangesNothing checks that a deed changes nothing for days before it.
func TestLaterChangesNothing(t *testing.T) {
	d, changed := &dice{3}, 0
	for range 500 {
		r := thrownRolls(d)
		l := thrownDeeds(d, r, 0, 10)
		later := thrownDeed(d, r, 999)
		later.Day = d.from(1, 12)
		if later.Kind == api.DeedRent {
			later.Until = later.Day + d.from(1, 5)
		}
		for day := range 14 {
			owns, uses, _ := deed.Owners(r, l, day)
			if day < later.Day {
				wantOwners(t, r, append(slices.Clone(l), later), day, owns, uses)
			} else if o, u, _ := deed.Owners(r, append(slices.Clone(l), later), day); !slices.Equal(o, owns) || !slices.Equal(u, uses) {
				changed++
			}
		}
	}
	if changed < 500 {
		t.Error("too few that change something:", changed)
	}
}

// owners returns who owns each minute when all deeds were done.
func owners(r api.Rolls, l []api.Deed) []int {
	var all []int
	owns, _, _ := deed.Owners(r, l, 100000)
	for _, h := range owns {
		all = append(all, slices.Repeat([]int{h.Who}, h.Turn.To-h.Turn.From)...)
	}
	return all
}

// TestNobodyLoses checks that who loses a minute did so by a deed of his own that is done, or died, and that what is the mosque's stays so.
func TestNobodyLoses(t *testing.T) {
	d, lost := &dice{4}, 0
	for range 400 {
		r := thrownRolls(d)
		read, why, _ := deed.Read(r, thrownDeeds(d, r, 1, 12))
		before := owners(r, nil)
		for i, one := range read {
			after := owners(r, read[:i+1])
			for minute, was := range before {
				if was == after[minute] {
					continue
				}
				lost++
				dies := one.Kind == api.DeedDeath
				gives := (one.Kind == api.DeedSale || one.Kind == api.DeedGift) && has(one.Turn, minute) && after[minute] == one.To
				if was != one.From || was == api.Mosque || why[i] != api.VoidNot || !dies && !gives {
					t.Error(r, read, i, why, minute, was, after[minute])
				}
			}
			before = after
		}
	}
	if lost < 1000 {
		t.Error("too few minutes that are lost:", lost)
	}
}

// TestVoidDidNotHappen checks that all is the same without the deeds that are void.
func TestVoidDidNotHappen(t *testing.T) {
	d := &dice{9}
	for range 400 {
		r := thrownRolls(d)
		l := thrownDeeds(d, r, 1, 12)
		read, why, _ := deed.Read(r, l)
		var done []api.Deed
		for i, one := range read {
			if why[i] == api.VoidNot {
				done = append(done, one)
			}
		}
		wantWhy(t, r, done, make([]uint8, len(done))...)
		for day := range 14 {
			owns, uses, _ := deed.Owners(r, l, day)
			wantOwners(t, r, done, day, owns, uses)
		}
	}
}

// TestHeirsGetAll checks that heirs get all that there was, in parts that are right within a minute, and that of what is left those get more of whom most was cut off, or the first ones.
func TestHeirsGetAll(t *testing.T) {
	d, more := &dice{5}, 0
	for range 1000 {
		n, parts := d.from(1, 1439), [...]int{3, 30, 1000}[d.from(0, 2)]
		r := rolls(1, hold(1, 0, n), hold(99, n, 1440))
		var heirs []int
		who, all := 1, 0
		for range d.from(1, 8) {
			who += d.from(1, 5)
			heirs = append(heirs, who, d.from(1, parts))
			all += heirs[len(heirs)-1]
		}
		shares, e := deed.Shares(r, deeds(death(1, 1, 1, heirs...)), 1)
		got := map[int]int{}
		for _, s := range shares {
			got[s.Who] = s.Minutes
		}
		sum, least, most := 0, all, -1
		for i := 0; i < len(heirs); i += 2 {
			has, down, cut := got[heirs[i]], n*heirs[i+1]/all, n*heirs[i+1]%all
			sum += has
			switch {
			case has == down:
				most = max(most, cut)
			case has == down+1 && cut > 0 && cut > most:
				least = min(least, cut)
				more++
			default:
				t.Error(n, heirs, shares, e)
			}
		}
		if sum != n || e != api.OK || least < most {
			t.Error(n, heirs, shares, e)
		}
	}
	if more < 500 {
		t.Error("too few who get more:", more)
	}
}

// thrownBids throws bids for a turn, of few minutes and little money.
func thrownBids(d *dice, of api.Turn) []api.Bid {
	var l []api.Bid
	for range d.from(0, 9) {
		from := d.from(of.From, of.To-1)
		l = append(l, api.Bid{Who: d.from(1, 3), Turn: turn(from, d.from(from+1, min(of.To, from+5))), Baisa: d.from(0, 4) * d.from(0, 3)})
	}
	return l
}

// auctions returns all lists of bids that go together, and their sums: no minute is in the turns of two.
func auctions(l []api.Bid) (lists [][]int, sums []int) {
sets:
	for set := range 1 << len(l) {
		var list []int
		taken, sum := map[int]bool{}, 0
		for i, b := range l {
			if set>>i&1 == 0 {
				continue
			}
			for minute := b.Turn.From; minute < b.Turn.To; minute++ {
				if taken[minute] {
					continue sets
				}
				taken[minute] = true
			}
			list, sum = append(list, i), sum+b.Baisa
		}
		lists, sums = append(lists, list), append(sums, sum)
	}
	return lists, sums
}

// TestAuctionsTried compares auctions and their prices with all lists of bids that go together.
func TestAuctionsTried(t *testing.T) {
	d, equal, several := &dice{6}, 0, 0
	for range 1500 {
		from := d.from(0, 20)
		of := turn(from, from+d.from(1, 14))
		l := thrownBids(d, of)
		lists, sums := auctions(l)
		most := slices.Max(sums)
		var best [][]int
		for i, sum := range sums {
			if sum == most {
				best = append(best, lists[i])
			}
		}
		first := slices.MinFunc(best, slices.Compare[[]int])
		wantAuction(t, of, l, most, first...)
		if len(best) > 1 {
			equal++
		}
		if len(first) > 1 {
			several++
		}
		wantTriedPrices(t, of, l, lists, sums)
	}
	if equal < 300 || several < 300 {
		t.Error("too few of a kind:", equal, several)
	}
}

// wantTriedPrices checks that prices are as long as may be, and that all up to a minute cost what bids may pay for it.
func wantTriedPrices(t *testing.T, of api.Turn, l []api.Bid, lists [][]int, sums []int) {
	t.Helper()
	var want []api.Price
	from, before := of.From, 0
	for to := of.From + 1; to <= of.To; to++ {
		if to < of.To && !slices.ContainsFunc(l, func(b api.Bid) bool { return b.Turn.From == to || b.Turn.To == to }) {
			continue
		}
		most := 0
		for i, list := range lists {
			if !slices.ContainsFunc(list, func(j int) bool { return l[j].Turn.To > to }) {
				most = max(most, sums[i])
			}
		}
		want = append(want, price(from, to, most-before))
		from, before = to, most
	}
	wantPrices(t, of, l, want...)
}

// proof returns the sum that prices prove, in the chapter's words, of prices for each minute of a turn.
func proof(of api.Turn, l []api.Bid, each []int) (int, api.Errno) {
	for _, b := range l {
		sum := 0
		for minute := b.Turn.From; minute < b.Turn.To; minute++ {
			sum += each[minute-of.From]
		}
		if sum < b.Baisa {
			return 0, api.ErrPrices
		}
	}
	sum := 0
	for _, n := range each {
		sum += n
	}
	return sum, api.OK
}

// TestNobodyCanPayMore checks that no prices prove a sum that bids that go together exceed, and that prices prove what each bid is at most.
func TestNobodyCanPayMore(t *testing.T) {
	d, proven, not := &dice{7}, 0, 0
	for range 4000 {
		from := d.from(0, 20)
		of := turn(from, from+d.from(1, 10))
		l := thrownBids(d, of)
		_, sum, _ := deed.Auction(of, l)
		var p []api.Price
		var each []int
		at, _ := deed.Prices(of, l)
		for _, one := range at {
			// Each minute of its own: the first one of a turn costs what it costs, and some a little more or less.
			for minute := one.Turn.From; minute < one.Turn.To; minute++ {
				baisa := d.from(0, 20) / 19
				if minute == one.Turn.From {
					baisa += max(0, one.Baisa-d.from(0, 8)/8)
				}
				p, each = append(p, price(minute, minute+1, baisa)), append(each, baisa)
			}
		}
		want, e := proof(of, l, each)
		wantProves(t, of, l, p, want, e)
		if e != api.OK {
			not++
			continue
		}
		proven++
		if want < sum {
			t.Error(of, l, p, want, sum)
		}
	}
	if proven < 500 || not < 500 {
		t.Error("too few of a kind:", proven, not)
	}
}

// spare returns a list with more room than it needs, full of something else.
func spare[T any](list []T, other T) []T {
	long := append(slices.Clone(list), other, other, other)
	return long[:len(list)]
}

// kept tells whether a list is still what it was, with the room behind it.
func kept[T any](list, was []T, other T, same func(T, T) bool) bool {
	return slices.EqualFunc(list[:len(was)+3], append(slices.Clone(was), other, other, other), same)
}

func alike[T comparable](one, other T) bool { return one == other }

// TestArgumentsStay checks that nothing is written to arguments, nor to the room behind them, and that results are new.
func TestArgumentsStay(t *testing.T) {
	otherHold, otherDeed, otherHeir := hold(71, 72, 73), sale(74, 75, 76, 77, 78, 79), api.Heir{Who: 80, Parts: 81}
	r := rolls(1, spare(example().Holds, otherHold)...)
	heirs := []api.Heir{{Who: 2, Parts: 1}, {Who: 4, Parts: 2}, {Who: 5, Parts: 1}}
	dies := death(14, 3, 9)
	dies.Heirs = spare(heirs, otherHeir)
	// Not in their order, and one more than once.
	was := deeds(death(13, 40, 2, 4, 2, 5, 1), exampleDeeds()[2], exampleDeeds()[0], dies, exampleDeeds()[1], exampleDeeds()[0], dies)
	l := spare(was, otherDeed)
	check := func() {
		t.Helper()
		if !kept(r.Holds, example().Holds, otherHold, alike) || !kept(l, was, otherDeed, sameDeed) || !kept(dies.Heirs, heirs, otherHeir, alike) {
			t.Error(r, l, dies)
		}
	}
	read, why, _ := deed.Read(r, l)
	owns, uses, _ := deed.Owners(r, l, 40)
	shares, _ := deed.Shares(r, l, 40)
	deed.At(r, l, 40, 60)
	check()
	if len(read) != 5 || len(read[0].Heirs) != 3 || len(owns) == 0 || len(uses) == 0 {
		t.Fatal(read, why, owns, uses, shares)
	}
	for i := range read {
		clear(read[i].Heirs[:cap(read[i].Heirs)])
	}
	clear(read[:cap(read)])
	clear(owns[:cap(owns)])
	if !slices.Contains(uses, hold(1, 100, 600)) {
		t.Error("uses are owns:", uses)
	}
	clear(uses[:cap(uses)])
	clear(shares[:cap(shares)])
	check()
	again, _, _ := deed.Read(r, l)
	if len(again) != 5 || !sameDeed(again[0], dies) {
		t.Error(again)
	}
	TestExamples(t)
}

func TestArgumentsOfAuctionsStay(t *testing.T) {
	otherBid, otherPrice := bid(71, 72, 73), price(74, 75, 76)
	l := spare(exampleBids(), otherBid)
	p := prices(price(0, 40, 20), price(40, 60, 30), price(60, 100, 15))
	given := spare(p, otherPrice)
	won, _, _ := deed.Auction(turn(0, 100), l)
	is, _ := deed.Prices(turn(0, 100), l)
	deed.Proves(turn(0, 100), l, given)
	clear(won[:cap(won)])
	clear(is[:cap(is)])
	if !kept(l, exampleBids(), otherBid, alike) || !kept(given, p, otherPrice, alike) {
		t.Error(l, given)
	}
	TestAuctionExamples(t)
}

// TestAnyValue calls all functions with numbers from everywhere: each call ends, and all agree on what is valid.
func TestAnyValue(t *testing.T) {
	d, errors := &dice{8}, map[api.Errno]int{}
	often := 0
	throw := func() int {
		odd := [...]int{math.MinInt, math.MinInt + 1, -1, 0, 1, 1440, 9999, 10000, 100000, 100001, 1000000001, math.MaxInt - 1, math.MaxInt}
		if d.from(0, often) == 0 {
			return odd[d.from(0, len(odd)-1)]
		}
		return d.from(0, 9)
	}
	for range 8000 {
		often = d.from(30, 300)
		r := rolls(1+throw()/10, hold(throw(), 0, 5+throw()), hold(throw(), 5+throw()/10, 1440))
		if d.from(0, 9) > 0 {
			r = thrownRolls(d)
		}
		var l []api.Deed
		for i := range d.from(0, 3) {
			one := thrownDeed(d, r, i)
			one.Day, one.From, one.To = one.Day+throw()/10, one.From+throw()/10, one.To+throw()/10
			one.Turn.To, one.Until = one.Turn.To+throw()/10, one.Until+throw()/10
			for i := range one.Heirs {
				one.Heirs[i].Parts += throw() / 10
			}
			one.Id, one.Kind = throw()/3, one.Kind+uint8(d.from(0, 40)/40)
			l = append(l, one)
		}
		day, minute := throw()-d.from(0, 9)/9*5, throw()
		_, _, e := deed.Read(r, l)
		_, _, f := deed.Owners(r, l, day)
		_, g := deed.Shares(r, l, day)
		_, _, h := deed.At(r, l, day, minute)
		errors[f]++
		if e != api.OK && (f != e || g != e || h != e) || e == api.OK && f != api.OK && f != api.ErrArg || g != f || f != api.OK && h != f || h != f && h != api.ErrArg {
			t.Error(r, l, day, minute, e, f, g, h)
		}
		if c := deed.Check(r); (c == api.OK) == (e == api.ErrRolls) {
			t.Error(r, c, e)
		}
		wantAgreed(t, turn(throw(), 9+throw()), bids(bid(throw(), 5+throw(), throw()), bid(throw(), 5+throw(), throw())), prices(price(throw(), throw(), throw()), price(throw(), throw(), throw())))
	}
	for _, e := range []api.Errno{api.OK, api.ErrArg, api.ErrRolls, api.ErrDeed, api.ErrTwo} {
		if errors[e] < 100 {
			t.Error("too few of a kind:", errors)
		}
	}
}

// wantAgreed checks that functions of auctions agree on what is valid.
func wantAgreed(t *testing.T, of api.Turn, l []api.Bid, p []api.Price) {
	t.Helper()
	_, sum, e := deed.Auction(of, l)
	is, f := deed.Prices(of, l)
	n, g := deed.Proves(of, l, is)
	_, h := deed.Proves(of, l, p)
	if e != f || e != g || n != sum || e != api.OK && h != e || h != e && h != api.ErrPrices {
		t.Error(of, l, sum, e, is, f, n, g, h)
	}
}
