package deed_test

import (
	"math"
	"slices"
	"testing"

	"aflaj/api"
	"aflaj/deed"
)

func turn(from, to int) api.Turn { return api.Turn{From: from, To: to} }

func hold(who, from, to int) api.Hold { return api.Hold{Who: who, Turn: turn(from, to)} }

func rolls(days int, holds ...api.Hold) api.Rolls { return api.Rolls{Days: days, Holds: holds} }

func sale(id, day, from, to, first, last int) api.Deed {
	return api.Deed{Id: id, Day: day, Kind: api.DeedSale, From: from, To: to, Turn: turn(first, last)}
}

func gift(id, day, from, first, last int) api.Deed {
	return api.Deed{Id: id, Day: day, Kind: api.DeedGift, From: from, Turn: turn(first, last)}
}

func rent(id, day, from, to, first, last, until int) api.Deed {
	return api.Deed{Id: id, Day: day, Kind: api.DeedRent, From: from, To: to, Turn: turn(first, last), Until: until}
}

// death is that somebody dies, with heirs and their parts by turns.
func death(id, day, from int, heirs ...int) api.Deed {
	d := api.Deed{Id: id, Day: day, Kind: api.DeedDeath, From: from}
	for i := 0; i < len(heirs); i += 2 {
		d.Heirs = append(d.Heirs, api.Heir{Who: heirs[i], Parts: heirs[i+1]})
	}
	return d
}

func deeds(l ...api.Deed) []api.Deed { return l }

func holds(l ...api.Hold) []api.Hold { return l }

// example are the rolls of the chapter's examples.
func example() api.Rolls { return rolls(1, hold(1, 0, 600), hold(2, 600, 1200), hold(0, 1200, 1440)) }

// exampleDeeds are the deeds of the chapter's examples.
func exampleDeeds() []api.Deed {
	return deeds(sale(10, 5, 1, 2, 0, 100), rent(11, 6, 2, 3, 50, 150, 30), rent(12, 7, 2, 3, 50, 100, 30))
}

func sameDeed(one, other api.Deed) bool {
	heirs, others := one.Heirs, other.Heirs
	one.Heirs, other.Heirs = nil, nil
	return one.Id == other.Id && one.Day == other.Day && one.Kind == other.Kind && one.From == other.From && one.To == other.To &&
		one.Turn == other.Turn && one.Until == other.Until && slices.Equal(heirs, others)
}

// wantRead checks the deeds that are read, and why they are void.
func wantRead(t *testing.T, r api.Rolls, l []api.Deed, want []api.Deed, why ...uint8) {
	t.Helper()
	read, is, e := deed.Read(r, l)
	if e != api.OK || !slices.EqualFunc(read, want, sameDeed) || !slices.Equal(is, why) {
		t.Errorf("Read %v %v: %v %v %v, want %v %v", r, l, read, is, e, want, why)
	}
}

// wantWhy checks why deeds are void, which are in the order in which they are done.
func wantWhy(t *testing.T, r api.Rolls, l []api.Deed, why ...uint8) {
	t.Helper()
	wantRead(t, r, l, l, why...)
}

// wantError checks that all functions with deeds have an error, and nothing beside it, whatever the day and the minute are.
func wantError(t *testing.T, r api.Rolls, l []api.Deed, e api.Errno) {
	t.Helper()
	for _, day := range []int{0, -1, 100001} {
		read, why, e1 := deed.Read(r, l)
		owns, uses, e2 := deed.Owners(r, l, day)
		shares, e3 := deed.Shares(r, l, day)
		owner, user, e4 := deed.At(r, l, day, day)
		if e1 != e || e2 != e || e3 != e || e4 != e {
			t.Errorf("%v %v on %v: %v %v %v %v, want %v", r, l, day, e1, e2, e3, e4, e)
		}
		if len(read) != 0 || len(why) != 0 || len(owns) != 0 || len(uses) != 0 || len(shares) != 0 || owner != 0 || user != 0 {
			t.Errorf("%v %v on %v: %v %v %v %v %v %v %v beside an error", r, l, day, read, why, owns, uses, shares, owner, user)
		}
	}
}

func wantOwners(t *testing.T, r api.Rolls, l []api.Deed, day int, owns, uses []api.Hold) {
	t.Helper()
	if o, u, e := deed.Owners(r, l, day); e != api.OK || !slices.Equal(o, owns) || !slices.Equal(u, uses) {
		t.Errorf("Owners %v %v on %v: %v %v %v, want %v %v", r, l, day, o, u, e, owns, uses)
	}
}

// wantShares checks shares, given as people and minutes by turns.
func wantShares(t *testing.T, r api.Rolls, l []api.Deed, day int, want ...int) {
	t.Helper()
	shares, e := deed.Shares(r, l, day)
	var is []int
	for _, s := range shares {
		is = append(is, s.Who, s.Minutes)
	}
	if e != api.OK || !slices.Equal(is, want) {
		t.Errorf("Shares %v %v on %v: %v %v, want %v", r, l, day, is, e, want)
	}
}

func wantAt(t *testing.T, r api.Rolls, l []api.Deed, day, minute, owner, user int, e api.Errno) {
	t.Helper()
	if o, u, f := deed.At(r, l, day, minute); o != owner || u != user || f != e {
		t.Errorf("At %v %v on %v, %v: %v %v %v, want %v %v %v", r, l, day, minute, o, u, f, owner, user, e)
	}
}

func TestExamples(t *testing.T) {
	r, l := example(), exampleDeeds()
	if e := deed.Check(r); e != api.OK {
		t.Error(e)
	}
	wantOwners(t, r, l, 20,
		holds(hold(2, 0, 100), hold(1, 100, 600), hold(2, 600, 1200), hold(0, 1200, 1440)),
		holds(hold(2, 0, 50), hold(3, 50, 100), hold(1, 100, 600), hold(2, 600, 1200), hold(0, 1200, 1440)))
	wantWhy(t, r, l, api.VoidNot, api.VoidHis, api.VoidNot)
	l = append(l, death(13, 40, 2, 4, 2, 5, 1))
	wantShares(t, r, l, 40, 0, 240, 1, 500, 4, 467, 5, 233)
	wantAt(t, r, l, 40, 60, 4, 4, api.OK)
	wantAt(t, r, l, 40, 1000, 5, 5, api.OK)
}

// strange are numbers that no chapter allows anywhere.
var strange = [...]int{math.MinInt, math.MinInt + 1, -1 << 40, -1, 1 << 40, math.MaxInt - 1, math.MaxInt}

// many are so many holds of 24 minutes each, and a last one to the end of so many days.
func many(n, days int) []api.Hold {
	var l []api.Hold
	for i := range n - 1 {
		l = append(l, hold(i%3, i*24, i*24+24))
	}
	return append(l, hold(3, (n-1)*24, days*1440))
}

// wrongRolls are no valid rolls.
func wrongRolls() []api.Rolls {
	all := []api.Rolls{
		{}, rolls(1), rolls(0, hold(1, 0, 0)), rolls(0, hold(1, 0, 1440)), rolls(17, hold(1, 0, 17*1440)), rolls(-1, hold(1, 0, -1440)),
		{Days: 1, Holds: []api.Hold{}}, rolls(16, many(61, 16)...), rolls(2, hold(1, 0, 1440)), rolls(1, hold(1, 0, 2880)),
		rolls(1, hold(1, 1, 1440)), rolls(1, hold(1, -1, 1440)), rolls(1, hold(1, 0, 1439)), rolls(1, hold(1, 0, 1441)),
		rolls(1, hold(1, 0, 700), hold(2, 701, 1440)), rolls(1, hold(1, 0, 700), hold(2, 699, 1440)), rolls(1, hold(2, 700, 1440), hold(1, 0, 700)),
		rolls(1, hold(1, 0, 700), hold(3, 700, 700), hold(2, 700, 1440)), rolls(1, hold(1, 0, 1440), hold(2, 1440, 1440)), rolls(1, hold(2, 0, 0), hold(1, 0, 1440)),
		rolls(1, hold(1, 0, 1500), hold(2, 1500, 1440)), rolls(1, hold(1, 0, 800), hold(2, 800, 700), hold(3, 700, 1440)), rolls(1, hold(1, 0, -1), hold(2, -1, 1440)),
		rolls(1, hold(10000, 0, 1440)), rolls(1, hold(1, 0, 700), hold(10000, 700, 1440)), rolls(1, hold(-1, 0, 700), hold(1, 700, 1440)),
		rolls(1, hold(1, 0, 1440), hold(1, 0, 1440)),
		// 1,440 times these is 0, or a day, modulo 2 to the power of 64.
		rolls(1<<59, hold(1, 0, 1440)), rolls(1<<59+1, hold(1, 0, 1440)), rolls(-1<<59+1, hold(1, 0, 1440)),
	}
	for _, n := range strange {
		all = append(all, rolls(n, hold(1, 0, 1440)), rolls(1, hold(n, 0, 1440)), rolls(1, hold(1, n, 1440)), rolls(1, hold(1, 0, n)), rolls(1, hold(1, 0, n), hold(2, n, 1440)))
	}
	return all
}

func TestCheck(t *testing.T) {
	for _, r := range []api.Rolls{
		example(), rolls(1, hold(0, 0, 1440)), rolls(1, hold(9999, 0, 1440)), rolls(16, hold(1, 0, 16*1440)), rolls(16, many(60, 16)...), rolls(2, many(60, 2)...),
		rolls(1, hold(1, 0, 1), hold(1, 1, 1439), hold(1, 1439, 1440)), rolls(2, hold(0, 0, 1), hold(0, 1, 2880)),
	} {
		if e := deed.Check(r); e != api.OK {
			t.Error(r, e)
		}
		wantRead(t, r, nil, nil)
		wantRead(t, r, []api.Deed{}, nil)
	}
	for _, r := range wrongRolls() {
		if e := deed.Check(r); e != api.ErrRolls {
			t.Error(r, e)
		}
		wantError(t, r, nil, api.ErrRolls)
		wantError(t, r, make([]api.Deed, 61), api.ErrRolls)
		wantError(t, r, deeds(api.Deed{Id: -1}), api.ErrRolls)
		wantError(t, r, deeds(gift(1, 1, 1, 0, 1), gift(1, 2, 1, 0, 1)), api.ErrRolls)
	}
}

// wrong are numbers below and above a range.
func wrong(low, high int) []int { return append([]int{low - 1, high + 1}, strange[:]...) }

// ofAllKinds are valid deeds of each kind for the rolls of the examples.
func ofAllKinds() []api.Deed {
	return deeds(sale(4, 9, 1, 2, 10, 20), gift(4, 9, 1, 10, 20), death(4, 9, 1, 2, 5, 7, 6), rent(4, 9, 1, 2, 10, 20, 12))
}

// wrongDeeds are no valid deeds: each is one of all kinds with one thing changed.
func wrongDeeds() []api.Deed {
	var all []api.Deed
	change := func(was api.Deed, change func(d *api.Deed)) {
		was.Heirs = slices.Clone(was.Heirs)
		change(&was)
		all = append(all, was)
	}
	each := func(was api.Deed, numbers []int, set func(d *api.Deed, n int)) {
		for _, n := range numbers {
			change(was, func(d *api.Deed) { set(d, n) })
		}
	}
	for _, d := range ofAllKinds() {
		for _, kind := range []uint8{0, 5, 6, 255} {
			change(d, func(d *api.Deed) { d.Kind = kind })
		}
		each(d, wrong(0, 9999), func(d *api.Deed, n int) { d.Id = n })
		each(d, wrong(0, 100000), func(d *api.Deed, n int) { d.Day = n })
		each(d, wrong(1, 9999), func(d *api.Deed, n int) { d.From = n })
	}
	s, g, m, r := ofAllKinds()[0], ofAllKinds()[1], ofAllKinds()[2], ofAllKinds()[3]
	for _, d := range deeds(s, r) {
		// Not the mosque, nor From.
		each(d, append(wrong(1, 9999), 1), func(d *api.Deed, n int) { d.To = n })
	}
	for _, d := range deeds(g, m) {
		each(d, append(wrong(0, 0), 2), func(d *api.Deed, n int) { d.To = n })
	}
	for _, d := range deeds(s, g, r) {
		// From is before To, and both are of the cycle.
		each(d, append(wrong(0, 19), 20), func(d *api.Deed, n int) { d.Turn.From = n })
		each(d, append(wrong(11, 1440), 10), func(d *api.Deed, n int) { d.Turn.To = n })
		each(d, []int{0, 1440, -10, 1441}, func(d *api.Deed, n int) { d.Turn = turn(n, n) })
		change(d, func(d *api.Deed) { d.Heirs = []api.Heir{{Who: 7, Parts: 1}} })
	}
	each(m, strange[:], func(d *api.Deed, n int) { d.Turn.From = n })
	each(m, append(strange[:], 1, 1440), func(d *api.Deed, n int) { d.Turn.To = n })
	for _, d := range deeds(s, g, m) {
		each(d, append(strange[:], 10, 1), func(d *api.Deed, n int) { d.Until = n })
	}
	each(r, append(wrong(10, 100001), 9, 0), func(d *api.Deed, n int) { d.Until = n })
	for i := range 2 {
		each(m, append(wrong(1, 9999), 1), func(d *api.Deed, n int) { d.Heirs[i].Who = n })
		each(m, wrong(1, 1000), func(d *api.Deed, n int) { d.Heirs[i].Parts = n })
	}
	return append(all, api.Deed{}, death(4, 9, 1), death(4, 9, 1, 2, 1, 2, 1), death(4, 9, 1, 7, 1, 2, 1), death(4, 9, 1, 2, 1, 7, 1, 5, 1), death(4, 9, 1, 2, 1, 3, 1, 4, 1, 5, 1, 6, 1, 7, 1, 8, 1, 9, 1, 10, 1))
}

func TestWrongDeeds(t *testing.T) {
	for _, d := range ofAllKinds() {
		wantWhy(t, example(), deeds(d), api.VoidNot)
	}
	for _, d := range wrongDeeds() {
		wantError(t, example(), deeds(d), api.ErrDeed)
		// The first error is of all deeds, wherever one stands, and before ErrTwo.
		wantError(t, example(), deeds(gift(4, 9, 1, 0, 1), gift(4, 8, 1, 0, 1), d), api.ErrDeed)
		wantError(t, example(), deeds(d, d, gift(4, 9, 1, 0, 1)), api.ErrDeed)
		wantError(t, example(), slices.Repeat(deeds(d), 61), api.ErrMany)
	}
	wantError(t, example(), slices.Repeat(deeds(gift(4, 9, 1, 0, 1)), 61), api.ErrMany)
	wantError(t, rolls(2, hold(1, 0, 2880)), deeds(gift(4, 9, 1, 0, 2881)), api.ErrDeed)
}

func TestLimits(t *testing.T) {
	r := rolls(16, hold(1, 0, 5000), hold(9999, 5000, 23040))
	l := deeds(
		rent(9999, 0, 1, 9999, 0, 5000, 1), death(0, 1, 1, 2, 1000, 3, 1, 4, 1000, 5, 1000, 6, 1000, 7, 1000, 8, 1000, 9999, 1000),
		sale(9998, 100000, 9999, 1, 23039, 23040), rent(9997, 100000, 9999, 1, 5000, 23039, 100001))
	wantRead(t, r, l, deeds(l[0], l[1], l[3], l[2]), api.VoidNot, api.VoidNot, api.VoidDead, api.VoidDead)
	wantAt(t, r, l, 0, 4999, 1, 9999, api.OK)
	wantAt(t, r, l, 1, 0, 2, 2, api.OK)
	wantAt(t, r, l, 100000, 23039, 9999, 9999, api.OK)
	l = deeds(rent(9999, 100000, 9999, 1, 5000, 23040, 100001), gift(0, 100000, 1, 0, 5000))
	wantRead(t, r, l, deeds(l[1], l[0]), api.VoidNot, api.VoidNot)
	wantOwners(t, r, l, 99999, holds(hold(1, 0, 5000), hold(9999, 5000, 23040)), holds(hold(1, 0, 5000), hold(9999, 5000, 23040)))
	wantOwners(t, r, l, 100000, holds(hold(0, 0, 5000), hold(9999, 5000, 23040)), holds(hold(0, 0, 5000), hold(1, 5000, 23040)))
	var all []api.Deed
	for i := range 60 {
		all = append(all, sale(i, 7, 1, 2, i, i+1))
	}
	wantWhy(t, r, all, make([]uint8, 60)...)
	wantShares(t, r, all, 7, 1, 4940, 2, 60, 9999, 18040)
}

// differing are a death and a rent, and what differs from each of them in one thing, but not in its Id.
func differing() [][]api.Deed {
	return [][]api.Deed{
		{
			death(3, 5, 1, 2, 1, 4, 2), death(3, 6, 1, 2, 1, 4, 2), death(3, 5, 3, 2, 1, 4, 2), death(3, 5, 1, 2, 1), death(3, 5, 1, 2, 1, 4, 2, 5, 1),
			death(3, 5, 1, 2, 1, 5, 2), death(3, 5, 1, 3, 1, 4, 2), death(3, 5, 1, 2, 2, 4, 2), death(3, 5, 1, 2, 1, 4, 1),
		},
		{
			rent(3, 5, 1, 2, 0, 9, 8), rent(3, 4, 1, 2, 0, 9, 8), rent(3, 5, 4, 2, 0, 9, 8), rent(3, 5, 1, 3, 0, 9, 8), rent(3, 5, 1, 2, 1, 9, 8), rent(3, 5, 1, 2, 0, 8, 8), rent(3, 5, 1, 2, 0, 9, 7),
			sale(3, 5, 1, 2, 0, 9),
		},
		{gift(3, 5, 1, 0, 9), sale(3, 5, 1, 2, 0, 9), rent(3, 5, 1, 2, 0, 9, 6), death(3, 5, 1, 2, 1)},
	}
}

func TestTwo(t *testing.T) {
	between := deeds(gift(1, 9, 2, 600, 700), gift(2, 1, 2, 700, 800))
	for _, l := range differing() {
		for _, other := range l[1:] {
			wantError(t, example(), deeds(l[0], other), api.ErrTwo)
			wantError(t, example(), deeds(other, l[0]), api.ErrTwo)
			wantError(t, example(), slices.Concat(l[:1], between, l[:1], deeds(other)), api.ErrTwo)
			wantError(t, example(), slices.Concat(between[:1], deeds(other), between[1:], l[:1]), api.ErrTwo)
		}
		wantRead(t, example(), slices.Concat(l[:1], between, l[:1]), deeds(between[1], l[0], between[0]), 0, 0, 0)
	}
	// No Heirs is no Heirs.
	empty := gift(3, 5, 1, 0, 9)
	empty.Heirs = []api.Heir{}
	wantRead(t, example(), deeds(empty, gift(3, 5, 1, 0, 9), empty), deeds(empty), api.VoidNot)
}

func TestOrder(t *testing.T) {
	r := rolls(1, hold(1, 0, 1440))
	// By days first, and not by Ids.
	a, b, c := sale(9, 3, 1, 2, 0, 100), sale(5, 4, 2, 3, 0, 100), sale(7, 4, 3, 4, 0, 100)
	for _, l := range [][]api.Deed{deeds(a, b, c), deeds(c, b, a), deeds(b, a, c), deeds(b, c, a), deeds(c, a, b), deeds(c, c, b, a, b, a, a)} {
		wantRead(t, r, l, deeds(a, b, c), api.VoidNot, api.VoidNot, api.VoidNot)
		wantShares(t, r, l, 2, 1, 1440)
		wantShares(t, r, l, 3, 1, 1340, 2, 100)
		wantShares(t, r, l, 4, 1, 1340, 4, 100)
	}
	// On the same day by Ids: 3 sells before he has it.
	b.Id = 8
	wantRead(t, r, deeds(b, c, a), deeds(a, c, b), api.VoidNot, api.VoidHis, api.VoidNot)
	wantShares(t, r, deeds(b, c, a), 100000, 1, 1340, 3, 100)
	// A deed is done once: what comes back stays.
	there, back := sale(1, 1, 1, 2, 0, 100), sale(2, 1, 2, 1, 0, 100)
	wantRead(t, r, deeds(there, back, there), deeds(there, back), api.VoidNot, api.VoidNot)
	wantShares(t, r, deeds(there, back, there), 1, 1, 1440)
	same := slices.Repeat(deeds(there, back), 30)
	wantRead(t, r, same, deeds(there, back), api.VoidNot, api.VoidNot)
}

func TestVoid(t *testing.T) {
	r := rolls(1, hold(1, 0, 100), hold(2, 100, 200), hold(0, 200, 1440))
	dead := death(1, 1, 3, 4, 1)
	for i, x := range []struct {
		l   []api.Deed
		why uint8
	}{
		{deeds(dead, sale(2, 1, 3, 2, 0, 10)), api.VoidDead}, {deeds(dead, sale(2, 1, 1, 3, 0, 10)), api.VoidDead},
		{deeds(dead, sale(2, 1, 1, 3, 100, 110)), api.VoidDead}, {deeds(dead, gift(2, 1, 3, 0, 10)), api.VoidDead},
		{deeds(dead, death(2, 1, 3, 5, 1)), api.VoidDead}, {deeds(dead, rent(2, 1, 3, 1, 0, 10, 9)), api.VoidDead}, {deeds(dead, rent(2, 1, 1, 3, 100, 110, 9)), api.VoidDead},
		// Who dies later, or by a higher Id, is not dead.
		{deeds(death(3, 1, 3, 4, 1), sale(2, 1, 1, 3, 0, 10)), api.VoidNot}, {deeds(death(1, 2, 3, 4, 1), sale(2, 1, 1, 3, 0, 10)), api.VoidNot},
		{deeds(sale(2, 1, 1, 3, 0, 100)), api.VoidNot}, {deeds(sale(2, 1, 1, 3, 0, 101)), api.VoidHis}, {deeds(sale(2, 1, 1, 3, 100, 101)), api.VoidHis}, {deeds(sale(2, 1, 2, 3, 99, 200)), api.VoidHis},
		{deeds(sale(2, 1, 2, 3, 100, 201)), api.VoidHis}, {deeds(sale(2, 1, 5, 1, 0, 1)), api.VoidHis}, {deeds(sale(2, 1, 1, 2, 100, 110)), api.VoidHis},
		{deeds(gift(2, 1, 2, 100, 200)), api.VoidNot}, {deeds(gift(2, 1, 2, 100, 201)), api.VoidHis}, {deeds(gift(2, 1, 2, 99, 101)), api.VoidHis}, {deeds(gift(2, 1, 1, 1439, 1440)), api.VoidHis},
		{deeds(death(2, 1, 9, 8, 1)), api.VoidNot},
		{deeds(rent(2, 1, 1, 3, 0, 100, 9)), api.VoidNot}, {deeds(rent(2, 1, 1, 3, 0, 101, 9)), api.VoidHis}, {deeds(rent(2, 1, 2, 3, 99, 150, 9)), api.VoidHis},
		// What is not his alone in the middle.
		{deeds(sale(1, 1, 1, 2, 50, 51), sale(2, 1, 1, 3, 0, 100)), api.VoidHis},
		{deeds(rent(1, 1, 1, 3, 20, 30, 9), rent(2, 1, 1, 4, 29, 40, 9)), api.VoidLet}, {deeds(rent(1, 1, 1, 3, 20, 30, 9), rent(2, 1, 1, 4, 10, 21, 9)), api.VoidLet},
		{deeds(rent(1, 1, 1, 3, 20, 30, 9), rent(2, 1, 1, 4, 0, 100, 9)), api.VoidLet}, {deeds(rent(1, 1, 1, 3, 20, 30, 9), rent(2, 1, 1, 3, 25, 26, 20)), api.VoidLet},
		{deeds(rent(1, 1, 1, 3, 20, 30, 9), rent(2, 1, 1, 4, 30, 40, 9)), api.VoidNot}, {deeds(rent(1, 1, 1, 3, 20, 30, 9), rent(2, 1, 1, 4, 10, 20, 9)), api.VoidNot},
		// What is let is the owner's still, but not its user's.
		{deeds(rent(1, 1, 1, 3, 20, 30, 9), sale(2, 1, 1, 4, 20, 30)), api.VoidNot}, {deeds(rent(1, 1, 1, 3, 20, 30, 9), sale(2, 1, 3, 4, 20, 30)), api.VoidHis},
		{deeds(rent(1, 1, 1, 3, 20, 30, 9), rent(2, 1, 3, 4, 20, 30, 5)), api.VoidHis}, {deeds(rent(1, 1, 1, 3, 20, 30, 9), gift(2, 1, 1, 20, 30)), api.VoidNot},
	} {
		read, why, e := deed.Read(r, x.l)
		at := slices.IndexFunc(read, func(d api.Deed) bool { return d.Id == 2 })
		if e != api.OK || why[at] != x.why {
			t.Error(i, x.l, why, e)
		}
	}
}

// TestFirstReason checks that of several reasons of a deed the first one is told.
func TestFirstReason(t *testing.T) {
	r := rolls(1, hold(1, 0, 100), hold(2, 100, 1440))
	first, dead := rent(1, 1, 1, 3, 20, 30, 9), death(2, 2, 4, 5, 1)
	wantWhy(t, r, deeds(first, dead, rent(3, 3, 2, 4, 25, 26, 9)), 0, 0, api.VoidDead)
	wantWhy(t, r, deeds(first, dead, rent(3, 3, 4, 2, 25, 26, 9)), 0, 0, api.VoidDead)
	wantWhy(t, r, deeds(first, dead, rent(3, 3, 2, 5, 25, 26, 9)), 0, 0, api.VoidHis)
	wantWhy(t, r, deeds(first, dead, rent(3, 3, 1, 5, 25, 26, 9)), 0, 0, api.VoidLet)
	wantWhy(t, r, deeds(first, dead, sale(3, 3, 4, 5, 25, 26)), 0, 0, api.VoidDead)
	wantWhy(t, r, deeds(first, dead, gift(3, 3, 4, 25, 26)), 0, 0, api.VoidDead)
}

// TestVoidChangesNothing checks that of what a void deed tells nothing happens.
func TestVoidChangesNothing(t *testing.T) {
	r := rolls(1, hold(1, 0, 100), hold(2, 100, 1440))
	let := rent(1, 1, 1, 3, 0, 10, 9)
	for _, void := range []api.Deed{
		sale(2, 1, 1, 4, 50, 101), sale(2, 1, 2, 4, 99, 200), gift(2, 1, 1, 0, 101), rent(2, 1, 1, 4, 5, 20, 30), rent(2, 1, 1, 4, 90, 101, 30), rent(2, 1, 1, 4, 9, 11, 30), rent(2, 1, 1, 4, 0, 10, 30),
	} {
		wantOwners(t, r, deeds(let, void), 5, r.Holds, holds(hold(3, 0, 10), hold(1, 10, 100), hold(2, 100, 1440)))
		wantOwners(t, r, deeds(let, void), 9, r.Holds, r.Holds)
	}
	// Who is dead does not die again: what he left stays where it is, and so do his other heirs.
	l := deeds(death(1, 1, 1, 4, 1), death(2, 2, 1, 5, 1), death(3, 3, 4, 1, 1, 6, 1))
	wantWhy(t, r, l, 0, api.VoidDead, 0)
	wantShares(t, r, l, 2, 2, 1340, 4, 100)
	wantShares(t, r, l, 3, 2, 1340, 6, 100)
	// Nobody is dead by a void deed: 4 dies after 1, who has no heirs but him.
	l = deeds(sale(1, 1, 2, 1, 0, 50), sale(2, 1, 1, 4, 0, 10))
	wantWhy(t, r, l, api.VoidHis, 0)
	wantShares(t, r, l, 1, 1, 90, 2, 1340, 4, 10)
}

func TestLet(t *testing.T) {
	r := rolls(1, hold(1, 0, 100), hold(2, 100, 1440))
	let := rent(5, 10, 1, 3, 20, 30, 13)
	used := holds(hold(1, 0, 20), hold(3, 20, 30), hold(1, 30, 100), hold(2, 100, 1440))
	for _, day := range []int{0, 9, 13, 14, 100000} {
		wantOwners(t, r, deeds(let), day, r.Holds, r.Holds)
		wantAt(t, r, deeds(let), day, 20, 1, 1, api.OK)
	}
	for _, day := range []int{10, 11, 12} {
		wantOwners(t, r, deeds(let), day, r.Holds, used)
		wantShares(t, r, deeds(let), day, 1, 100, 2, 1340)
		wantAt(t, r, deeds(let), day, 19, 1, 1, api.OK)
		wantAt(t, r, deeds(let), day, 20, 1, 3, api.OK)
		wantAt(t, r, deeds(let), day, 29, 1, 3, api.OK)
		wantAt(t, r, deeds(let), day, 30, 1, 1, api.OK)
	}
	// From its Until on it may be let again, and not before.
	for _, x := range []struct {
		day int
		why uint8
	}{{10, api.VoidLet}, {12, api.VoidLet}, {13, api.VoidNot}, {14, api.VoidNot}} {
		again := rent(6, x.day, 1, 4, 29, 40, 15)
		wantWhy(t, r, deeds(let, again), 0, x.why)
	}
	again := deeds(let, rent(6, 13, 1, 4, 20, 30, 15))
	wantAt(t, r, again, 12, 25, 1, 3, api.OK)
	wantAt(t, r, again, 13, 25, 1, 4, api.OK)
	wantAt(t, r, again, 14, 25, 1, 4, api.OK)
	wantAt(t, r, again, 15, 25, 1, 1, api.OK)
	// The one to whom it is let may be a neighbour: holds are joined.
	wantOwners(t, r, deeds(rent(5, 10, 1, 2, 90, 100, 13)), 10, r.Holds, holds(hold(1, 0, 90), hold(2, 90, 1440)))
}

// TestWhatIsLetStays checks that what is let is let still, whoever owns it then, until the one who uses it dies.
func TestWhatIsLetStays(t *testing.T) {
	r := rolls(1, hold(1, 0, 100), hold(2, 100, 1440))
	let := rent(1, 1, 1, 3, 20, 30, 50)
	for _, x := range []struct {
		then  api.Deed
		owner int
	}{{sale(2, 2, 1, 4, 0, 100), 4}, {gift(2, 2, 1, 0, 100), 0}, {death(2, 2, 1, 4, 1), 4}, {sale(2, 2, 1, 3, 0, 100), 3}, {death(2, 2, 1, 3, 1), 3}, {death(2, 2, 2, 3, 1), 1}} {
		wantAt(t, r, deeds(let, x.then), 2, 25, x.owner, 3, api.OK)
		wantAt(t, r, deeds(let, x.then), 49, 25, x.owner, 3, api.OK)
		wantAt(t, r, deeds(let, x.then), 50, 25, x.owner, x.owner, api.OK)
		wantWhy(t, r, deeds(let, x.then), 0, 0)
	}
	// A minute that is the user's own by now is let to him still, also when he sells it.
	own := deeds(let, sale(2, 2, 1, 3, 20, 30), rent(3, 3, 3, 5, 20, 30, 60), sale(4, 4, 3, 6, 20, 30))
	wantWhy(t, r, own, 0, 0, api.VoidLet, 0)
	wantAt(t, r, own, 4, 25, 6, 3, api.OK)
	wantAt(t, r, own, 50, 25, 6, 6, api.OK)
	// His death ends what is let to him, on its day, and nothing that is let to others.
	l := deeds(let, rent(2, 1, 1, 4, 30, 40, 50), rent(3, 1, 2, 3, 100, 110, 50), death(4, 5, 3, 4, 1), rent(5, 5, 1, 6, 20, 25, 9))
	wantWhy(t, r, l, 0, 0, 0, 0, 0)
	wantOwners(t, r, l, 4, r.Holds, holds(hold(1, 0, 20), hold(3, 20, 30), hold(4, 30, 40), hold(1, 40, 100), hold(3, 100, 110), hold(2, 110, 1440)))
	wantOwners(t, r, l, 5, r.Holds, holds(hold(1, 0, 20), hold(6, 20, 25), hold(1, 25, 30), hold(4, 30, 40), hold(1, 40, 100), hold(2, 100, 1440)))
	wantOwners(t, r, l, 9, r.Holds, holds(hold(1, 0, 30), hold(4, 30, 40), hold(1, 40, 100), hold(2, 100, 1440)))
	// The owner who lets it may use it himself if he dies who used it; he who owns and uses leaves what he owns.
	both := deeds(let, sale(2, 2, 1, 3, 20, 30), death(3, 3, 3, 7, 1))
	wantAt(t, r, both, 2, 25, 3, 3, api.OK)
	wantAt(t, r, both, 3, 25, 7, 7, api.OK)
	// On the first day of all there is none before it.
	wantAt(t, r, deeds(rent(1, 0, 1, 3, 20, 25, 9), death(2, 0, 3, 4, 1)), 0, 20, 1, 1, api.OK)
	wantAt(t, r, deeds(rent(1, 0, 1, 3, 20, 25, 1)), 0, 20, 1, 3, api.OK)
	// Void on the day of his death, by a higher Id; and before it by a lower one.
	wantWhy(t, r, deeds(death(1, 5, 3, 4, 1), rent(2, 5, 1, 3, 20, 25, 9)), 0, api.VoidDead)
	wantAt(t, r, deeds(rent(1, 5, 1, 3, 20, 25, 9), death(2, 5, 3, 4, 1)), 5, 20, 1, 1, api.OK)
}

func TestHeirs(t *testing.T) {
	// 1 leaves n minutes, in two parts if there are several, to heirs.
	leaves := func(n int) api.Rolls {
		if n == 0 {
			return rolls(16, hold(9, 0, 16*1440))
		}
		if n == 1 {
			return rolls(16, hold(9, 0, 3), hold(1, 3, 4), hold(9, 4, 16*1440))
		}
		return rolls(16, hold(9, 0, 3), hold(1, 3, 4), hold(9, 4, 5), hold(1, 5, 4+n), hold(9, 4+n, 16*1440))
	}
	for i, x := range []struct {
		n     int
		heirs []int
		want  []int
	}{
		{700, []int{4, 2, 5, 1}, []int{467, 233}}, {701, []int{4, 2, 5, 1}, []int{467, 234}}, {4, []int{2, 1, 3, 2}, []int{1, 3}}, {5, []int{2, 1, 3, 2}, []int{2, 3}},
		{100, []int{2, 1, 3, 1, 4, 1}, []int{34, 33, 33}}, {101, []int{2, 1, 3, 1, 4, 1}, []int{34, 34, 33}}, {102, []int{2, 1, 3, 1, 4, 1}, []int{34, 34, 34}},
		{10, []int{2, 5}, []int{10}}, {10, []int{2, 1, 3, 1}, []int{5, 5}}, {1, []int{2, 1, 3, 1}, []int{1, 0}}, {1, []int{2, 1, 3, 1000}, []int{0, 1}}, {1, []int{2, 1000, 3, 1}, []int{1, 0}},
		{2, []int{2, 1, 3, 1000, 4, 1}, []int{0, 2, 0}}, {0, []int{2, 1, 3, 2}, []int{0, 0}},
		// Cut off are 6 and 3 of 9; then 4, 4, 9 and 7 of 12; then 1 and 11 of 16 by turns.
		{6, []int{2, 7, 3, 2}, []int{5, 1}}, {7, []int{2, 4, 3, 4, 4, 3, 5, 1}, []int{2, 2, 2, 1}},
		{11, []int{2, 3, 3, 1, 4, 3, 5, 1, 6, 3, 7, 1, 8, 3, 9999, 1}, []int{2, 1, 2, 1, 2, 1, 2, 0}},
		{23000, []int{2, 1000, 3, 1000, 4, 1000, 5, 1000, 6, 1000, 7, 1000, 8, 1000, 9999, 999}, []int{2876, 2876, 2875, 2875, 2875, 2875, 2875, 2873}},
	} {
		r, l := leaves(x.n), deeds(death(1, 7, 1, x.heirs...))
		var want []int
		for i, n := range x.want {
			if n > 0 {
				want = append(want, x.heirs[2*i], n)
			}
		}
		has := []int{9, 16*1440 - x.n}
		if x.n > 0 {
			wantShares(t, r, l, 6, 1, x.n, 9, has[1])
		}
		at := len(want)
		if at > 0 && want[at-2] > 9 {
			at -= 2
		}
		wantShares(t, r, l, 7, slices.Insert(want, at, has...)...)
		if t.Failed() {
			t.Fatal(i)
		}
	}
}

// TestHeirsGetInOrder checks who of the heirs gets which minutes, and that those who are dead get nothing.
func TestHeirsGetInOrder(t *testing.T) {
	r := rolls(1, hold(1, 0, 4), hold(9, 4, 10), hold(1, 10, 16), hold(9, 16, 1440))
	wantOwners(t, r, deeds(death(1, 1, 1, 2, 1, 3, 1)), 1,
		holds(hold(2, 0, 4), hold(9, 4, 10), hold(2, 10, 11), hold(3, 11, 16), hold(9, 16, 1440)), holds(hold(2, 0, 4), hold(9, 4, 10), hold(2, 10, 11), hold(3, 11, 16), hold(9, 16, 1440)))
	wantOwners(t, r, deeds(death(1, 1, 1, 9, 1, 10, 4)), 1,
		holds(hold(9, 0, 2), hold(10, 2, 4), hold(9, 4, 10), hold(10, 10, 16), hold(9, 16, 1440)), holds(hold(9, 0, 2), hold(10, 2, 4), hold(9, 4, 10), hold(10, 10, 16), hold(9, 16, 1440)))
	// Of three one is dead: his parts count for nothing.
	for _, x := range []struct{ dead, first, second int }{{2, 3, 4}, {3, 2, 4}, {4, 2, 3}} {
		l := deeds(death(2, 1, x.dead, 8, 1), death(1, 2, 1, 2, 3, 3, 3, 4, 3))
		wantShares(t, r, l, 2, x.first, 5, x.second, 5, 9, 1430)
	}
	// Who dies on the same day by a higher Id gets it, and leaves it.
	wantShares(t, r, deeds(death(1, 2, 1, 2, 1, 3, 1), death(2, 2, 2, 3, 1, 4, 1)), 2, 3, 8, 4, 2, 9, 1430)
	// All are dead: the mosque owns all. Who dies last leaves nothing that was not his.
	l := deeds(death(1, 1, 2, 3, 1), death(2, 1, 3, 4, 1), death(3, 1, 1, 2, 5, 3, 6), death(4, 1, 4, 5, 1))
	wantWhy(t, r, l, 0, 0, 0, 0)
	wantShares(t, r, l, 1, 0, 10, 9, 1430)
	wantOwners(t, r, l, 1, holds(hold(0, 0, 4), hold(9, 4, 10), hold(0, 10, 16), hold(9, 16, 1440)), holds(hold(0, 0, 4), hold(9, 4, 10), hold(0, 10, 16), hold(9, 16, 1440)))
	// Two who are each other's heirs.
	wantShares(t, r, deeds(death(1, 1, 1, 9, 1), death(2, 1, 9, 1, 1)), 1, 0, 1440)
}

func TestOwners(t *testing.T) {
	// Holds of the same Who are joined, also those of the rolls.
	r := rolls(2, hold(1, 0, 10), hold(1, 10, 1440), hold(0, 1440, 1441), hold(0, 1441, 2000), hold(1, 2000, 2880))
	joined := holds(hold(1, 0, 1440), hold(0, 1440, 2000), hold(1, 2000, 2880))
	wantOwners(t, r, nil, 0, joined, joined)
	wantShares(t, r, nil, 0, 0, 560, 1, 2320)
	wantOwners(t, rolls(1, hold(5, 0, 1440)), nil, 100000, holds(hold(5, 0, 1440)), holds(hold(5, 0, 1440)))
	gifts := deeds(gift(1, 3, 1, 0, 1440), gift(2, 3, 1, 2000, 2880))
	wantOwners(t, r, gifts, 3, holds(hold(0, 0, 2880)), holds(hold(0, 0, 2880)))
	wantShares(t, r, gifts, 3, 0, 2880)
	wantOwners(t, r, gifts, 2, joined, joined)
	// Single minutes, the first and the last.
	l := deeds(sale(1, 3, 1, 2, 0, 1), sale(2, 3, 1, 2, 2879, 2880), sale(3, 3, 1, 2, 5, 6))
	single := holds(hold(2, 0, 1), hold(1, 1, 5), hold(2, 5, 6), hold(1, 6, 1440), hold(0, 1440, 2000), hold(1, 2000, 2879), hold(2, 2879, 2880))
	wantOwners(t, r, l, 3, single, single)
	wantShares(t, r, l, 3, 0, 560, 1, 2317, 2, 3)
}

func TestDaysAndMinutes(t *testing.T) {
	r, l := example(), exampleDeeds()
	for _, day := range wrong(0, 100000) {
		owns, uses, e := deed.Owners(r, l, day)
		if e != api.ErrArg || len(owns) != 0 || len(uses) != 0 {
			t.Error(day, owns, uses, e)
		}
		if shares, e := deed.Shares(r, l, day); e != api.ErrArg || len(shares) != 0 {
			t.Error(day, shares, e)
		}
		wantAt(t, r, l, day, 60, 0, 0, api.ErrArg)
		wantAt(t, r, l, day, -1, 0, 0, api.ErrArg)
	}
	for _, minute := range wrong(0, 1439) {
		wantAt(t, r, l, 20, minute, 0, 0, api.ErrArg)
	}
	for _, minute := range wrong(0, 2879) {
		wantAt(t, rolls(2, hold(1, 0, 2880)), nil, 20, minute, 0, 0, api.ErrArg)
	}
	wantAt(t, r, l, 0, 0, 1, 1, api.OK)
	wantAt(t, r, l, 100000, 1439, 0, 0, api.OK)
	wantAt(t, rolls(2, hold(1, 0, 2879), hold(2, 2879, 2880)), nil, 20, 2879, 2, 2, api.OK)
}
