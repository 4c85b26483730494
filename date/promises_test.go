package date_test

import (
	"math"
	"slices"
	"testing"

	"aflaj/api"
	"aflaj/date"
)

// dice are numbers that look thrown, and are the same in every run.
type dice struct{ state uint64 }

// from returns a number from low to high.
func (d *dice) from(low, high int) int {
	d.state = d.state*6364136223846793005 + 1442695040888963407
	return low + int((d.state>>33)%uint64(high-low+1))
}

// of returns a number of a span.
func (d *dice) of(s api.Span) int { return d.from(s.Lo, s.Hi) }

// seldom tells whether something is so that is so once of many times.
func (d *dice) seldom(many int) bool { return d.from(1, many) == 1 }

// span throws a span from low to high that is not longer than long.
func (d *dice) span(low, high, long int) api.Span {
	lo := d.from(low, high)
	return span(lo, min(lo+d.from(0, long), high))
}

// thrownFruit throws a fruit whose dates become drier in some days.
func thrownFruit(d *dice) api.Fruit {
	f := api.Fruit{Half: d.from(0, 300), Keep: d.from(0, 5), Prices: [3]int{d.from(0, 20), d.from(0, 20), d.from(0, 20)}}
	f.Soft = f.Half + d.from(1, 150)
	if d.seldom(6) {
		f.Half = 0
	}
	if d.seldom(6) {
		f.Soft = f.Half
	}
	if d.seldom(6) {
		f.Keep = mostKeep
	}
	f.Wet = d.span(max(f.Soft-150, 0), f.Soft+150, d.from(0, 80))
	f.Dry = d.span(0, mostDry, d.from(0, 20))
	f.Dry.Lo /= 2
	return f
}

// thrownBunch throws a bunch of some dates on up to so many days.
func thrownBunch(d *dice, days int) api.Bunch {
	b := api.Bunch{Birds: d.span(0, 3, d.from(0, 2)), Covered: d.seldom(6)}
	for range d.from(1, days) {
		b.Ripe = append(b.Ripe, d.span(0, 12, d.from(0, 3)))
	}
	return b
}

// thrownCuts throws cuts of a bunch.
func thrownCuts(d *dice, b api.Bunch) []int {
	var cuts []int
	many := d.from(1, 5)
	for day := range b.Ripe {
		if d.seldom(many) {
			cuts = append(cuts, day)
		}
	}
	return cuts
}

// fine is how many parts of a thousandth, or of a kilogram, numbers of truths are told in.
const fine = 1000

// truth is what happens to a bunch: how many dates ripen on a day, how many of them birds take on a later one, and how moist one of them is on each day from then on, in parts of a thousandth.
type truth struct {
	ripe, birds func(day int) int
	moist       func(day int) []int
}

// seen is what became of a bunch in truth.
type seen struct {
	grades                           [3]int
	taken, fallen, left, worth, ripe int
}

// grade returns, in the chapter's words, the grade of a date that is so moist.
func grade(f api.Fruit, moist int) int {
	switch {
	case moist >= f.Soft*fine:
		return 0
	case moist >= f.Half*fine:
		return 1
	}
	return 2
}

// happens returns what becomes of each date of a bunch, day by day.
func happens(f api.Fruit, b api.Bunch, cuts []int, is truth) seen {
	type group struct {
		day   int
		dates [][]int
	}
	var s seen
	var hang []group
	for today := range b.Ripe {
		var still []group
		for _, g := range hang {
			if !b.Covered {
				many := min(is.birds(g.day), len(g.dates))
				s.taken += many
				g.dates = g.dates[many:]
			}
			if today-g.day == f.Keep+1 {
				s.fallen += len(g.dates)
				continue
			}
			still = append(still, g)
		}
		ripe := group{day: today}
		for range is.ripe(today) {
			ripe.dates = append(ripe.dates, is.moist(today))
			s.ripe++
		}
		hang = append(still, ripe)
		if !slices.Contains(cuts, today) {
			continue
		}
		for _, g := range hang {
			for _, moist := range g.dates {
				is := grade(f, moist[today-g.day])
				s.grades[is]++
				s.worth += f.Prices[is]
			}
		}
		hang = nil
	}
	for _, g := range hang {
		s.left += len(g.dates)
	}
	return s
}

// thrownTruth throws what happens to a bunch.
func thrownTruth(d *dice, f api.Fruit, b api.Bunch) truth {
	parts := func(s api.Span) int {
		// Often a whole number, as Soft and Half are, and one of the ends.
		switch d.from(0, 3) {
		case 0:
			return fine * s.Lo
		case 1:
			return fine * s.Hi
		case 2:
			return fine * d.of(s)
		}
		return d.from(fine*s.Lo, fine*s.Hi)
	}
	return truth{
		ripe:  func(day int) int { return d.of(b.Ripe[day]) },
		birds: func(int) int { return d.of(b.Birds) },
		moist: func(day int) []int {
			moist := ints(parts(f.Wet))
			for i := range b.Ripe[day:] {
				moist = append(moist, max(moist[i]-parts(f.Dry), 0))
			}
			return moist
		},
	}
}

// isIn tells whether a number is in a span.
func isIn(n int, s api.Span) bool { return n >= s.Lo && n <= s.Hi }

// isSeen tells whether a yield tells what became of a bunch.
func isSeen(y api.Yield, s seen) bool {
	return isIn(s.grades[0], y.Grades[0]) && isIn(s.grades[1], y.Grades[1]) && isIn(s.grades[2], y.Grades[2]) &&
		isIn(s.taken, y.Taken) && isIn(s.fallen, y.Fallen) && isIn(s.left, y.Left) && isIn(s.worth, y.Worth)
}

// TestEachDateIsTold throws what happens to bunches (P8.2, P8.6).
func TestEachDateIsTold(t *testing.T) {
	d, kinds := &dice{1}, [7]int{}
	for range 5000 {
		f, b := thrownFruit(d), thrownBunch(d, 8)
		cuts := thrownCuts(d, b)
		y, e := date.Cut(f, b, cuts)
		if e != api.OK {
			t.Fatal(f, b, cuts, e)
		}
		for range 5 {
			s := happens(f, b, cuts, thrownTruth(d, f, b))
			if !isSeen(y, s) || s.grades[0]+s.grades[1]+s.grades[2]+s.taken+s.fallen+s.left != s.ripe {
				t.Fatal(f, b, cuts, y, s)
			}
			for i, n := range append(s.grades[:], s.taken, s.fallen, s.left, s.worth) {
				if n > 0 {
					kinds[i]++
				}
			}
		}
	}
	if slices.Min(kinds[:]) < 2500 {
		t.Error("too few of a kind:", kinds)
	}
}

// path returns how moist a date is day by day if it is of a grade after some days, or nothing if it can't be.
func path(f api.Fruit, days, want int) []int {
	for wet := f.Wet.Lo; wet <= f.Wet.Hi; wet++ {
		for much := f.Dry.Lo * days; much <= f.Dry.Hi*days; much++ {
			moist := ints(wet * fine)
			if grade(f, max(wet-much, 0)*fine) != want {
				continue
			}
			// It dries as much as it may on the first days, and as little on the others.
			more := much - f.Dry.Lo*days
			for i := range days {
				now := min(more, f.Dry.Hi-f.Dry.Lo)
				more -= now
				moist = append(moist, max(moist[i]-(f.Dry.Lo+now)*fine, 0))
			}
			return moist
		}
	}
	return nil
}

// orders are the grades in all orders.
func orders() [][]int {
	return [][]int{{0, 1, 2}, {0, 2, 1}, {1, 0, 2}, {1, 2, 0}, {2, 0, 1}, {2, 1, 0}}
}

// endTruth is what happens if each number is an end of its span, and each date that is cut has the first grade of an order that it may have.
func endTruth(f api.Fruit, b api.Bunch, cuts []int, many, birds func(s api.Span) int, order []int) truth {
	paths := map[int][]int{}
	for day := range b.Ripe {
		paths[day] = ints(f.Wet.Lo * fine)
		at := slices.IndexFunc(cuts, func(c int) bool { return c >= day })
		if at < 0 || cuts[at]-day > f.Keep {
			continue
		}
		for _, grade := range order {
			if moist := path(f, cuts[at]-day, grade); moist != nil {
				paths[day] = moist
				break
			}
		}
	}
	return truth{
		ripe:  func(day int) int { return many(b.Ripe[day]) },
		birds: func(int) int { return birds(b.Birds) },
		moist: func(day int) []int { return paths[day] },
	}
}

func lo(s api.Span) int { return s.Lo }

func hi(s api.Span) int { return s.Hi }

// wider returns the span with one number more.
func wider(s api.Span, n int) api.Span { return span(min(s.Lo, n), max(s.Hi, n)) }

// TestEachEndIsReached lets happen to bunches whatever is at the ends (P8.2, P8.6).
func TestEachEndIsReached(t *testing.T) {
	d, counts := &dice{2}, [7]int{}
	for range 1500 {
		f, b := thrownFruit(d), thrownBunch(d, 6)
		cuts := thrownCuts(d, b)
		y, e := date.Cut(f, b, cuts)
		none := just(math.MaxInt)
		none.Hi = -1
		got := api.Yield{Grades: [3]api.Span{none, none, none}, Taken: none, Fallen: none, Left: none, Worth: none}
		for _, many := range []func(api.Span) int{lo, hi} {
			for _, birds := range []func(api.Span) int{lo, hi} {
				for _, order := range orders() {
					s := happens(f, b, cuts, endTruth(f, b, cuts, many, birds, order))
					for i, n := range s.grades {
						got.Grades[i] = wider(got.Grades[i], n)
					}
					got.Taken, got.Fallen, got.Left, got.Worth = wider(got.Taken, s.taken), wider(got.Fallen, s.fallen), wider(got.Left, s.left), wider(got.Worth, s.worth)
				}
			}
		}
		if got != y || e != api.OK {
			t.Fatal(f, b, cuts, y, e, got)
		}
		for i, s := range spansOf(y) {
			if s.Lo > 0 && s.Lo < s.Hi {
				counts[i]++
			}
		}
	}
	if slices.Min(counts[:]) < 100 {
		t.Error("too few of a kind:", counts)
	}
}

// TestAllGrades looks at each date that there may be (P8.1).
func TestAllGrades(t *testing.T) {
	d, counts := &dice{3}, map[[2]uint8]int{}
	for range 3000 {
		f, days := thrownFruit(d), d.from(0, 8)
		var may []uint8
		for grade := range uint8(3) {
			if path(f, days, int(grade)) != nil {
				may = append(may, grade)
			}
		}
		wantGrades(t, f, days, slices.Min(may), slices.Max(may))
		counts[[2]uint8{slices.Min(may), slices.Max(may)}]++
	}
	for _, x := range [][2]uint8{{0, 0}, {0, 1}, {0, 2}, {1, 1}, {1, 2}, {2, 2}} {
		if counts[x] < 50 {
			t.Error("too few of a kind:", x, counts)
		}
	}
}

// sets returns all cuts with at most so many days.
func sets(b api.Bunch, most int) [][]int {
	var all [][]int
	for set := range 1 << len(b.Ripe) {
		var cuts []int
		for day := range b.Ripe {
			if set>>day&1 == 1 {
				cuts = append(cuts, day)
			}
		}
		if len(cuts) <= most {
			all = append(all, cuts)
		}
	}
	return all
}

// first returns, in the chapter's words, the best of all cuts, how much they are worth, and how many are worth as much.
func first(all [][]int, worth func(cuts []int) int) (best []int, most, same int) {
	most = -1
	for _, cuts := range all {
		sure := worth(cuts)
		if sure > most {
			best, most, same = cuts, sure, 0
		}
		if sure < most {
			continue
		}
		same++
		if len(cuts) < len(best) || len(cuts) == len(best) && slices.Compare(cuts, best) < 0 {
			best = cuts
		}
	}
	return best, most, same
}

// worst returns how much cuts are worth if everything happens as it should not.
func worst(f api.Fruit, b api.Bunch, cuts []int) int {
	least := math.MaxInt
	for _, order := range orders() {
		least = min(least, happens(f, b, cuts, endTruth(f, b, cuts, lo, hi, order)).worth)
	}
	return least
}

// TestNoCutsAreWorthMore tries all cuts of small bunches, with what becomes of each date (P8.3, P8.7).
func TestNoCutsAreWorthMore(t *testing.T) {
	d, several, days := &dice{4}, 0, [6]int{}
	for range 250 {
		f, b := thrownFruit(d), thrownBunch(d, 5)
		most := d.from(0, 6)
		want, worth, same := first(sets(b, most), func(cuts []int) int { return worst(f, b, cuts) })
		wantBest(t, f, b, most, worth, want...)
		if same > 1 {
			several++
		}
		days[len(want)]++
	}
	if several < 60 || slices.Min(days[:4]) < 15 {
		t.Error("too few of a kind:", several, days)
	}
}

// TestNoWideCutsAreWorthMore tries all cuts of bunches of up to all days (P8.3, P8.7).
func TestNoWideCutsAreWorthMore(t *testing.T) {
	d, several, days := &dice{5}, 0, [mostDays + 1]int{}
	for range 60 {
		f, b := thrownFruit(d), thrownBunch(d, mostDays)
		before, covered := 0, b
		covered.Covered = true
		for most := range mostDays + 1 {
			want, worth, same := first(sets(b, most), func(cuts []int) int {
				y, e := date.Cut(f, b, cuts)
				if e != api.OK {
					t.Fatal(f, b, cuts, e)
				}
				return y.Worth.Lo
			})
			wantBest(t, f, b, most, worth, want...)
			// One more day makes it no less, nor does a cover.
			if worth < before {
				t.Fatal(f, b, most, worth, before)
			}
			before = worth
			if _, n, e := date.Best(f, covered, most); n < worth || e != api.OK {
				t.Fatal(f, b, most, n, e, worth)
			}
			if same > 1 {
				several++
			}
			days[len(want)]++
		}
	}
	if several < 100 || slices.Min(days[:7]) < 10 {
		t.Error("too few of a kind:", several, days)
	}
}

// narrow throws a span within another one.
func (d *dice) narrow(s api.Span) api.Span {
	if d.seldom(2) {
		return s
	}
	at := d.of(s)
	return span(at, d.from(at, s.Hi))
}

// within tells whether spans are within others.
func within(narrow, wide []api.Span) bool {
	for i, s := range narrow {
		if s.Lo < wide[i].Lo || s.Hi > wide[i].Hi {
			return false
		}
	}
	return len(narrow) == len(wide)
}

func spansOf(y api.Yield) []api.Span {
	return append(slices.Clone(y.Grades[:]), y.Taken, y.Fallen, y.Left, y.Worth)
}

// TestKnownBetter narrows what is known of fruits and bunches, and covers some of them (P8.7, P8.9).
func TestKnownBetter(t *testing.T) {
	d, narrower, more := &dice{6}, 0, 0
	for range 4000 {
		f, b := thrownFruit(d), thrownBunch(d, 6)
		cuts, days, most := thrownCuts(d, b), d.from(0, 8), d.from(0, 6)
		better, known := f, b
		better.Wet, better.Dry = d.narrow(f.Wet), d.narrow(f.Dry)
		known.Birds, known.Ripe = d.narrow(b.Birds), nil
		for _, s := range b.Ripe {
			known.Ripe = append(known.Ripe, d.narrow(s))
		}
		firstWas, lastWas, e := date.Grades(f, days)
		first, last, g := date.Grades(better, days)
		if first < firstWas || last > lastWas || e != api.OK || g != api.OK {
			t.Fatal(f, better, days, firstWas, lastWas, first, last)
		}
		was, e := date.Cut(f, b, cuts)
		is, g := date.Cut(better, known, cuts)
		if !within(spansOf(is), spansOf(was)) || e != api.OK || g != api.OK {
			t.Fatal(f, better, b, known, cuts, was, is)
		}
		if was != is {
			narrower++
		}
		_, sure, e := date.Best(f, b, most)
		_, surer, g := date.Best(better, known, most)
		if surer < sure || e != api.OK || g != api.OK {
			t.Fatal(f, better, b, known, most, sure, surer)
		}
		if surer > sure {
			more++
		}
		// With a cover cuts are worth no less, neither for sure nor at the most.
		b.Covered = true
		covered, e := date.Cut(f, b, cuts)
		if covered.Worth.Lo < was.Worth.Lo || covered.Worth.Hi < was.Worth.Hi || e != api.OK {
			t.Fatal(f, b, cuts, was, covered)
		}
	}
	if narrower < 2000 || more < 1000 {
		t.Error("too few of a kind:", narrower, more)
	}
}

// thrownRound throws a round for some goats.
func thrownRound(d *dice) api.Round {
	r := api.Round{Fodder: d.span(0, 300, d.from(0, 50)), Dung: d.span(0, 60, d.from(0, 10)), Eats: d.span(0, 20, d.from(0, 3)), Gives: d.span(0, 8, d.from(0, 2)), Boost: d.span(0, whole, d.from(0, 200))}
	for range d.from(0, 5) {
		r.Seasons = append(r.Seasons, api.Season{Grown: d.span(0, 120, d.from(0, 40)), Spread: d.from(0, 30) * d.from(0, 2)})
	}
	return r
}

// evenRound throws one whose fodder from Boost need not be rounded.
func evenRound(d *dice) api.Round {
	r := thrownRound(d)
	r.Boost = span(r.Boost.Lo/100*100, r.Boost.Hi/100*100)
	for i := range r.Seasons {
		r.Seasons[i].Spread = r.Seasons[i].Spread / 10 * 10
	}
	return r
}

// milli is how many parts of a kilogram truths of rounds are told in.
const milli = fine * whole

// passes returns what there is after each season in truth, in parts of a kilogram, or why one is not gone. Numbers of spans, in the parts that are named, are told by two functions: of what comes, and of what goes.
func passes(r api.Round, goats int, comes, goes func(s api.Span, parts int) int) (states [][2]int, at int, e api.Errno) {
	fodder, dung := comes(r.Fodder, milli), comes(r.Dung, milli)
	for i, s := range r.Seasons {
		if dung < s.Spread*milli {
			return nil, i, api.ErrDung
		}
		dung -= s.Spread * milli
		fodder += comes(s.Grown, milli) + s.Spread*comes(r.Boost, fine)
		for range goats {
			fodder -= goes(r.Eats, milli)
			dung += comes(r.Gives, milli)
		}
		if fodder < 0 {
			return nil, i, api.ErrHungry
		}
		states = append(states, [2]int{fodder, dung})
	}
	return states, 0, api.OK
}

func least(s api.Span, parts int) int { return s.Lo * parts }

func greatest(s api.Span, parts int) int { return s.Hi * parts }

// TestNothingIsLost throws what happens in rounds (P8.4, P8.8).
func TestNothingIsLost(t *testing.T) {
	d, gone, boosted := &dice{7}, 0, 0
	any := func(s api.Span, parts int) int {
		switch d.from(0, 3) {
		case 0:
			return s.Lo * parts
		case 1:
			return s.Hi * parts
		}
		return d.from(s.Lo*parts, s.Hi*parts)
	}
	for range 20000 {
		r, goats := thrownRound(d), d.from(0, 12)
		told, _, e := date.Go(r, goats)
		if e != api.OK {
			continue
		}
		for which, how := range [][2]func(api.Span, int) int{{any, any}, {least, greatest}, {greatest, least}} {
			states, at, e := passes(r, goats, how[0], how[1])
			if e != api.OK || len(told) != len(states) || len(told) != len(r.Seasons) {
				t.Fatal(r, goats, told, states, at, e)
			}
			for i, x := range states {
				fodder, dung := told[i].Fodder, told[i].Dung
				if !isIn(x[0], span(fodder.Lo*milli, fodder.Hi*milli)) || !isIn(x[1], span(dung.Lo*milli, dung.Hi*milli)) {
					t.Fatal(r, goats, told, states)
				}
				// It is rounded by less than a kilogram in each season.
				if which == 1 && x[0] >= (fodder.Lo+i+1)*milli || which == 2 && x[0] <= (fodder.Hi-i-1)*milli {
					t.Fatal(r, goats, told, states)
				}
				if x[0]%milli != 0 {
					boosted++
				}
			}
		}
		gone++
	}
	if gone < 2000 || boosted < 2000 {
		t.Error("too few of a kind:", gone, boosted)
	}
}

// TestNoOtherGoats lets happen the worst, and the best, in rounds (P8.4, P8.5, P8.8).
func TestNoOtherGoats(t *testing.T) {
	d, counts, none := &dice{8}, map[api.Errno]int{}, 0
	for range 1500 {
		r := evenRound(d)
		var enough []int
		for goats := range 100 {
			got, gotAt, f := date.Go(r, goats)
			low, at, e := passes(r, goats, least, greatest)
			if f != e || gotAt != at || len(got) != len(low) {
				t.Fatal(r, goats, got, gotAt, f, low, at, e)
			}
			counts[e]++
			if e != api.OK {
				continue
			}
			enough = append(enough, goats)
			high, _, _ := passes(r, goats, greatest, least)
			for i, s := range got {
				if [2]int{s.Fodder.Lo * milli, s.Dung.Lo * milli} != low[i] || [2]int{s.Fodder.Hi * milli, s.Dung.Hi * milli} != high[i] {
					t.Fatal(r, goats, got, low, high)
				}
			}
		}
		switch {
		case len(enough) == 0:
			if got, e := date.Goats(r); e == api.OK && got.Lo < 100 || e != api.OK && (e != api.ErrNone || got != span(0, 0)) {
				t.Fatal(r, got, e)
			}
			none++
		case enough[len(enough)-1] < 99:
			wantGoats(t, r, span(enough[0], enough[len(enough)-1]), api.OK)
		}
	}
	if min(counts[api.OK], counts[api.ErrDung], counts[api.ErrHungry], 10*none) < 2000 {
		t.Error("too few of a kind:", counts, none)
	}
}

// TestAllNumbersOfGoats tries each of them (P8.5).
func TestAllNumbersOfGoats(t *testing.T) {
	d, some := &dice{9}, 0
	for range 150 {
		r := thrownRound(d)
		if d.seldom(3) {
			r.Fodder, r.Eats = d.span(900, 5000, 50), just(d.from(0, 3))
		}
		want, e := date.Goats(r)
		if e == api.OK {
			some++
		}
		for goats := range mostGoats + 1 {
			if _, _, f := date.Go(r, goats); (f == api.OK) != (e == api.OK && isIn(goats, want)) {
				t.Fatal(r, want, e, goats, f)
			}
		}
	}
	if some < 50 {
		t.Error("too few of a kind:", some)
	}
}

// TestRoundsKnownBetter narrows what is known of rounds (P8.9).
func TestRoundsKnownBetter(t *testing.T) {
	d, narrower, more := &dice{10}, 0, 0
	for range 15000 {
		r, goats := thrownRound(d), d.from(0, 12)
		better := r
		better.Fodder, better.Dung, better.Eats, better.Gives, better.Boost, better.Seasons = d.narrow(r.Fodder), d.narrow(r.Dung), d.narrow(r.Eats), d.narrow(r.Gives), d.narrow(r.Boost), nil
		for _, s := range r.Seasons {
			better.Seasons = append(better.Seasons, api.Season{Grown: d.narrow(s.Grown), Spread: s.Spread})
		}
		was, stop, e := date.Go(r, goats)
		is, later, f := date.Go(better, goats)
		if e == api.OK && f != api.OK || f != api.OK && later < stop {
			t.Fatal(r, better, goats, was, stop, e, is, later, f)
		}
		for i, s := range was {
			if !within(spans(is[i].Fodder, is[i].Dung), spans(s.Fodder, s.Dung)) {
				t.Fatal(r, better, goats, was, is)
			}
			if is[i] != s {
				narrower++
			}
		}
		// More numbers of goats are sure.
		sure, e := date.Goats(r)
		surer, f := date.Goats(better)
		if e == api.OK && (f != api.OK || !within(spans(sure), spans(surer))) {
			t.Fatal(r, better, sure, e, surer, f)
		}
		if surer != sure {
			more++
		}
	}
	if narrower < 2000 || more < 1000 {
		t.Error("too few of a kind:", narrower, more)
	}
}

// spare returns a list with more room than it needs, full of something else.
func spare[T any](list []T, other T) []T {
	long := append(slices.Clone(list), other, other, other)
	return long[:len(list)]
}

// kept tells whether a list is still what it was, with the room behind it.
func kept[T comparable](list, was []T, other T) bool {
	return slices.Equal(list[:len(was)+3], append(slices.Clone(was), other, other, other))
}

// TestArgumentsStay checks that nothing is written to arguments, nor to the room behind them, and that results are new.
func TestArgumentsStay(t *testing.T) {
	d, otherSeason := &dice{11}, api.Season{Spread: -7}
	for range 500 {
		f, was, rounds := thrownFruit(d), thrownBunch(d, 6), thrownRound(d)
		cutsWas := thrownCuts(d, was)
		b, r, cuts := was, rounds, spare(cutsWas, -7)
		b.Ripe, r.Seasons = spare(was.Ripe, just(-7)), spare(rounds.Seasons, otherSeason)
		date.Check(f, b)
		y, e := date.Cut(f, b, cuts)
		best, worth, g := date.Best(f, b, 6)
		again, _, _ := date.Best(f, b, 6)
		states, _, _ := date.Go(r, 3)
		statesAgain, _, _ := date.Go(r, 3)
		date.Goats(r)
		if z, h := date.Cut(f, was, best); e != api.OK || g != api.OK || h != api.OK || z.Worth.Lo != worth || y.Worth.Lo > worth {
			t.Error(f, b, cuts, y, best, z, worth, e, g, h)
		}
		// What is written to a result changes neither an argument nor another result.
		bestWas, statesWas := slices.Clone(again), slices.Clone(statesAgain)
		_ = append(best, 71, 72, 73)
		_ = append(states, state(just(71), just(72)))
		clear(best)
		clear(states)
		if !slices.Equal(again, bestWas) || !slices.Equal(statesAgain, statesWas) {
			t.Error(f, b, again, bestWas, r, statesAgain, statesWas)
		}
		if !kept(b.Ripe, was.Ripe, just(-7)) || !kept(cuts, cutsWas, -7) || !kept(r.Seasons, rounds.Seasons, otherSeason) {
			t.Error(was, b, cuts, rounds, r)
		}
	}
	TestExamples(t)
}

// TestAnyValue calls all functions with numbers from everywhere: each call ends, tells nothing beside an error, and all agree on what is valid.
func TestAnyValue(t *testing.T) {
	d, counts := &dice{12}, map[[2]int]int{}
	strange := [...]int{math.MinInt, math.MinInt + 1, math.MinInt + 1000, -2, -1, 0, 1, 2, 3, 12, 13, 30, 31, 100, 101, 299, 300, 301, 450, 999, 1000, 1001, mostDates, mostDates + 1, mostStore, mostStore + 1, math.MaxInt - 1000, math.MaxInt - 1, math.MaxInt}
	odd := func(n int) int {
		if d.seldom(60) {
			return strange[d.from(0, len(strange)-1)]
		}
		return n
	}
	oddSpan := func(lo, hi int) api.Span { return span(odd(lo), odd(hi)) }
	note := func(which int, e api.Errno, nothing bool) {
		counts[[2]int{which, int(e)}]++
		if e != api.OK && !nothing {
			t.Error("something beside an error:", which, e)
		}
	}
	for range 20000 {
		f := api.Fruit{Wet: oddSpan(500, 600), Dry: oddSpan(40, 50), Soft: odd(450), Half: odd(300), Keep: odd(4), Prices: [3]int{odd(9), odd(5), odd(3)}}
		b := api.Bunch{Ripe: spans(oddSpan(10, 20), oddSpan(0, 5), oddSpan(40, 60)), Birds: oddSpan(1, 2), Covered: d.seldom(2)}
		r := api.Round{Fodder: oddSpan(100, 120), Dung: oddSpan(10, 10), Eats: oddSpan(20, 25), Gives: oddSpan(5, 6), Boost: oddSpan(500, 600), Seasons: []api.Season{{Grown: oddSpan(50, 60), Spread: odd(10)}, {Grown: oddSpan(40, 60), Spread: odd(12)}}}
		check := date.Check(f, b)
		note(0, check, true)
		first, last, g := date.Grades(f, odd(4))
		note(1, g, first == 0 && last == 0)
		y, e := date.Cut(f, b, ints(odd(0), odd(2)))
		note(2, e, y == api.Yield{})
		cuts, worth, h := date.Best(f, b, odd(2))
		note(3, h, len(cuts) == 0 && worth == 0)
		states, at, i := date.Go(r, odd(odd(3)))
		note(4, i, len(states) == 0 && (at == 0 || i == api.ErrDung || i == api.ErrHungry))
		many, j := date.Goats(r)
		note(5, j, many == span(0, 0))
		if (check == api.ErrFruit) != (g == api.ErrFruit) || check != e && (check != api.OK || e != api.ErrCuts) || check != h && (check != api.OK || h != api.ErrArg) || (i == api.ErrRound) != (j == api.ErrRound) {
			t.Error(f, b, r, check, g, e, h, i, j)
		}
	}
	for which, errors := range [][]api.Errno{
		{api.OK, api.ErrFruit, api.ErrBunch}, {api.OK, api.ErrFruit, api.ErrArg}, {api.OK, api.ErrFruit, api.ErrBunch, api.ErrCuts}, {api.OK, api.ErrFruit, api.ErrBunch, api.ErrArg},
		{api.OK, api.ErrRound, api.ErrArg, api.ErrDung, api.ErrHungry}, {api.OK, api.ErrRound, api.ErrNone},
	} {
		for _, e := range errors {
			if counts[[2]int{which, int(e)}] < 100 {
				t.Error("too few of a kind:", which, e, counts)
			}
			delete(counts, [2]int{which, int(e)})
		}
	}
	if len(counts) > 0 {
		t.Error("errors that no function has:", counts)
	}
}
