package channel_test

import (
	"math"
	"math/big"
	"slices"
	"testing"

	"aflaj/api"
	"aflaj/channel"
	"aflaj/gallery"
)

// dice are numbers that look thrown, and are the same in every run.
type dice struct{ state uint64 }

// from returns a number from low to high.
func (d *dice) from(low, high int) int {
	d.state = d.state*6364136223846793005 + 1442695040888963407
	return low + int((d.state>>33)%uint64(high-low+1))
}

// span returns a span from 0 to most: now and then one number alone.
func (d *dice) span(most int) api.Span {
	one, other := d.from(0, most), d.from(0, most)
	if d.from(0, 3) == 0 {
		other = one
	}
	return span(min(one, other), max(one, other))
}

// part returns a part of a span.
func (d *dice) part(s api.Span) api.Span {
	lo := d.from(s.Lo, s.Hi)
	return span(lo, d.from(lo, s.Hi))
}

// any returns a number of a span that need not be whole.
func (d *dice) any(s api.Span) *big.Rat {
	return big.NewRat(int64(7*s.Lo+d.from(0, 7*(s.Hi-s.Lo))), 7)
}

// mixed returns the numbers from 0 to n-1 in an order.
func (d *dice) mixed(n int) []int {
	var l []int
	for i := range n {
		l = slices.Insert(l, d.from(0, i), i)
	}
	return l
}

// thrownNet throws a net of a day or two, with a field at least.
func thrownNet(d *dice, most int) api.Net {
	n := api.Net{Dry: d.from(0, 90), Days: d.from(1, 2)}
	switch d.from(0, 5) {
	case 0:
		n.Dry = 0
	case 1:
		n.Dry = d.from(0, cycle)
	}
	for i := range d.from(0, most) {
		n.Canals = append(n.Canals, canal(max(0, i-d.from(0, 3)), d.span(d.from(0, 999)), d.span(d.from(0, 400))))
	}
	nodes := d.mixed(len(n.Canals) + 1)
	n.Fields = nodes[:d.from(1, min(len(nodes), 12))]
	return n
}

// thrownUses throws uses of a net: many of them so long after one before as canals stay wet, or at once.
func thrownUses(d *dice, n api.Net, most int) []api.Use {
	var l []api.Use
	at := 0
	if d.from(0, 1) == 0 {
		at = d.from(0, 100)
	}
	for range d.from(0, most) {
		switch d.from(0, 3) {
		case 0:
			at += max(0, min(n.Dry+d.from(-1, 1), 200))
		case 1:
			at += d.from(0, 100)
		}
		to := at + d.from(1, 60)
		if to > n.Days*1440 {
			break
		}
		l = append(l, use(d.from(0, len(n.Fields)-1), at, to))
		at = to
	}
	// The last one may end so long before the cycle does as canals stay wet until the first one.
	if end := n.Days*1440 + d.from(-1, 1) - n.Dry + firstFrom(l); len(l) > 0 && d.from(0, 1) == 0 && end > l[len(l)-1].Turn.From && end <= n.Days*1440 {
		l[len(l)-1].Turn.To = end
	}
	return l
}

func firstFrom(l []api.Use) int {
	if len(l) == 0 {
		return 0
	}
	return l[0].Turn.From
}

// way is the canals to a node, found from their ends on.
func way(n api.Net, node int) []int {
	if node == 0 {
		return nil
	}
	return append(way(n, n.Canals[node-1].From), node-1)
}

// isDry tells, in the chapter's words, whether a canal is dry at the beginning of a use.
func isDry(n api.Net, l []api.Use, which, canal int) bool {
	begins := l[which].Turn.From
	for _, u := range l {
		for _, ended := range ints(u.Turn.To, u.Turn.To-n.Days*1440) {
			if slices.Contains(way(n, n.Fields[u.Field]), canal) && ended <= begins && begins <= ended+n.Dry {
				return false
			}
		}
	}
	return true
}

func whole(n int) *big.Rat { return big.NewRat(int64(n), 1) }

func plus(a, b *big.Rat) *big.Rat { return new(big.Rat).Add(a, b) }

func minus(a, b *big.Rat) *big.Rat { return new(big.Rat).Sub(a, b) }

func times(a, b *big.Rat) *big.Rat { return new(big.Rat).Mul(a, b) }

// down rounds a number down, and up rounds it up.
func down(a *big.Rat) int { return int(new(big.Int).Div(a.Num(), a.Denom()).Int64()) }

func up(a *big.Rat) int { return -down(new(big.Rat).Neg(a)) }

// gone returns what of litres is soaked up, and seeps away.
func gone(in, fill, seep *big.Rat) *big.Rat {
	soaked := fill
	if in.Cmp(fill) < 0 {
		soaked = in
	}
	return plus(soaked, times(minus(in, soaked), times(seep, big.NewRat(1, 1000))))
}

// left returns what goes on of litres.
func left(in, fill, seep *big.Rat) *big.Rat { return minus(in, gone(in, fill, seep)) }

// told returns what is told of a use: what its field gets, and what is lost in each canal.
func told(n api.Net, flow api.Span, minutes, node int, dry []int) (api.Span, map[int]api.Span) {
	in, lost := span(flow.Lo*minutes, flow.Hi*minutes), map[int]api.Span{}
	for _, i := range way(n, node) {
		seep, fill := n.Canals[i].Seep, n.Canals[i].Fill
		if !slices.Contains(dry, i) {
			fill = api.Span{}
		}
		lo, hi := whole(in.Lo), whole(in.Hi)
		lost[i] = span(down(gone(lo, whole(fill.Lo), whole(seep.Lo))), up(gone(hi, whole(fill.Hi), whole(seep.Hi))))
		in = span(down(left(lo, whole(fill.Hi), whole(seep.Hi))), up(left(hi, whole(fill.Lo), whole(seep.Lo))))
	}
	return in, lost
}

// tried returns what is told of uses, in the chapter's words.
func tried(n api.Net, flow api.Span, l []api.Use) (dries [][]int, fields, lost []api.Span) {
	fields, lost = make([]api.Span, len(n.Fields)), make([]api.Span, len(n.Canals))
	for which, u := range l {
		var dry []int
		for _, c := range way(n, n.Fields[u.Field]) {
			if isDry(n, l, which, c) {
				dry = append(dry, c)
			}
		}
		gets, off := told(n, flow, u.Turn.To-u.Turn.From, n.Fields[u.Field], dry)
		fields[u.Field].Lo += gets.Lo
		fields[u.Field].Hi += gets.Hi
		for c, s := range off {
			lost[c].Lo += s.Lo
			lost[c].Hi += s.Hi
		}
		dries = append(dries, dry)
	}
	return dries, fields, lost
}

// TestAgainstTried checks paths, canals that are dry, and waters, against what is tried use by use.
func TestAgainstTried(t *testing.T) {
	d, dry, wet, over := &dice{1}, 0, 0, 0
	for range 3000 {
		n := thrownNet(d, 9)
		l, flow := thrownUses(d, n, 9), d.span(d.from(0, 40))
		for field, node := range n.Fields {
			wantPath(t, n, field, api.OK, way(n, node)...)
		}
		dries, fields, lost := tried(n, flow, l)
		wantDries(t, n, l, api.OK, dries...)
		wantWaters(t, n, flow, l, fields, lost)
		for which, u := range l {
			switch long := len(way(n, n.Fields[u.Field])); {
			case which == 0 && len(dries[0]) < long:
				over++
			case which > 0 && len(dries[which]) == long:
				dry++
			case which > 0 && len(dries[which]) > 0:
				wet++
			}
		}
	}
	if dry < 500 || wet < 500 || over < 300 {
		t.Error("too few of a kind:", dry, wet, over)
	}
}

// truth is what is so of some uses, and in each of them.
type truth struct {
	in           *big.Rat
	fields, lost []*big.Rat
}

func inside(n *big.Rat, s api.Span) bool {
	return whole(s.Lo).Cmp(n) <= 0 && n.Cmp(whole(s.Hi)) <= 0
}

// thrownTruth throws what is so of uses: any numbers of the spans.
func thrownTruth(d *dice, n api.Net, l []api.Use, flow func() *big.Rat) truth {
	x := truth{in: whole(0)}
	for range n.Fields {
		x.fields = append(x.fields, whole(0))
	}
	for range n.Canals {
		x.lost = append(x.lost, whole(0))
	}
	// Now and then all of one end.
	number := d.any
	switch d.from(0, 4) {
	case 0:
		number = func(s api.Span) *big.Rat { return whole(s.Lo) }
	case 1:
		number = func(s api.Span) *big.Rat { return whole(s.Hi) }
	}
	for which, u := range l {
		water := times(flow(), whole(u.Turn.To-u.Turn.From))
		x.in = plus(x.in, water)
		for _, c := range way(n, n.Fields[u.Field]) {
			fill, seep := whole(0), number(n.Canals[c].Seep)
			if isDry(n, l, which, c) {
				fill = number(n.Canals[c].Fill)
			}
			x.lost[c] = plus(x.lost[c], gone(water, fill, seep))
			water = left(water, fill, seep)
		}
		x.fields[u.Field] = plus(x.fields[u.Field], water)
	}
	return x
}

// wantTrue checks that what is so lies in what is told, and that what comes in is what all fields get, and what is lost.
func wantTrue(t *testing.T, n api.Net, flow api.Span, l []api.Use, x truth) {
	t.Helper()
	fields, lost, e := channel.Waters(n, flow, l)
	if e != api.OK || len(fields) != len(x.fields) || len(lost) != len(x.lost) {
		t.Fatal(n, flow, l, fields, lost, e)
	}
	rest := x.in
	for field, s := range fields {
		if !inside(x.fields[field], s) {
			t.Error(n, flow, l, "field", field, s, x.fields[field])
		}
		rest = minus(rest, x.fields[field])
	}
	for c, s := range lost {
		if !inside(x.lost[c], s) {
			t.Error(n, flow, l, "canal", c, s, x.lost[c])
		}
		rest = minus(rest, x.lost[c])
	}
	if rest.Sign() != 0 {
		t.Error(n, flow, l, "not named:", rest)
	}
}

// TestWhateverFlows checks that whatever flows within bounds lies in what is told.
func TestWhateverFlows(t *testing.T) {
	d := &dice{2}
	for range 2000 {
		n := thrownNet(d, 7)
		l, flow := thrownUses(d, n, 6), d.span(d.from(0, 40))
		wantTrue(t, n, flow, l, thrownTruth(d, n, l, func() *big.Rat { return d.any(flow) }))
	}
}

// reached returns the nodes to which water flows if these canals are open.
func reached(n api.Net, open map[int]bool) []int {
	nodes := ints(0)
	for i, c := range n.Canals {
		if open[i] && slices.Contains(nodes, c.From) {
			nodes = append(nodes, i+1)
		}
	}
	return nodes
}

// TestStonesLead checks that stones that are moved lead the water from field to field, and nowhere else.
func TestStonesLead(t *testing.T) {
	d, moved := &dice{3}, 0
	for range 300 {
		n := thrownNet(d, 16)
		at, open := d.from(0, len(n.Fields)-1), map[int]bool{}
		for _, c := range way(n, n.Fields[at]) {
			open[c] = true
		}
		for range 10 {
			to := d.from(0, len(n.Fields)-1)
			shut, opened, e := channel.Moves(n, at, to)
			back, again, f := channel.Moves(n, to, at)
			if e != api.OK || f != api.OK || !slices.Equal(shut, again) || !slices.Equal(opened, back) || !slices.IsSorted(shut) || !slices.IsSorted(opened) {
				t.Error(n, at, to, shut, opened, back, again, e, f)
			}
			for _, c := range shut {
				if !open[c] {
					t.Error(n, at, to, "was shut:", c)
				}
				delete(open, c)
			}
			for _, c := range opened {
				if open[c] {
					t.Error(n, at, to, "was open:", c)
				}
				open[c] = true
			}
			// All nodes of the path, one more than it has canals, and no other one.
			path := way(n, n.Fields[to])
			nodes := ints(0)
			for _, c := range path {
				nodes = append(nodes, c+1)
			}
			if !slices.Equal(reached(n, open), nodes) || len(open) != len(path) {
				t.Error(n, at, to, open)
			}
			if len(shut) > 1 && len(opened) > 1 {
				moved++
			}
			at = to
		}
	}
	if moved < 200 {
		t.Error("too few moves of many stones:", moved)
	}
}

// TestMinutesAreLeast checks that so many minutes are enough for sure, and that one less is not.
func TestMinutesAreLeast(t *testing.T) {
	d, none, found := &dice{4}, 0, 0
	for range 1500 {
		n := thrownNet(d, 6)
		field, flow := d.from(0, len(n.Fields)-1), d.span(d.from(0, 40))
		gets := func(minutes int) int {
			s, _ := told(n, flow, minutes, n.Fields[field], way(n, n.Fields[field]))
			return s.Lo
		}
		most := gets(n.Days * 1440)
		want := [...]int{0, d.from(0, most), d.from(0, min(most, 99)), most, most + 1}[d.from(0, 4)]
		minutes, e := channel.Minutes(n, flow, field, want)
		if want > most {
			none++
			if minutes != 0 || e != api.ErrNone {
				t.Error(n, flow, field, want, minutes, e)
			}
			continue
		}
		if e != api.OK || minutes < 0 || minutes > n.Days*1440 || gets(minutes) < want || minutes > 0 && gets(minutes-1) >= want {
			t.Error(n, flow, field, want, minutes, e)
		}
		if minutes > 0 {
			found++
		}
		// As Waters tells it, if canals dry at once.
		n.Dry = 0
		if fields, _, e := channel.Waters(n, flow, uses(field, 0, minutes)); minutes > 0 && minutes < n.Days*1440 && (e != api.OK || fields[field].Lo < want) {
			t.Error(n, flow, field, want, minutes, fields, e)
		}
	}
	if none < 200 || found < 600 {
		t.Error("too few of a kind:", none, found)
	}
}

// orders calls a function with all orders of the numbers from 0 to n-1, from the first one to the last one.
func orders(n int, found func([]int)) {
	var next func(order []int)
	next = func(order []int) {
		if len(order) == n {
			found(order)
		}
		for k := range n {
			if !slices.Contains(order, k) {
				next(append(slices.Clone(order), k))
			}
		}
	}
	next(nil)
}

// taken returns the uses of turns in an order.
func taken(fields, minutes, order []int) []api.Use {
	var l []api.Use
	at := 0
	for _, k := range order {
		l = append(l, use(fields[k], at, at+minutes[k]))
		at += minutes[k]
	}
	return l
}

// sure returns what all fields together get at the least.
func sure(fields []api.Span) int {
	all := 0
	for _, s := range fields {
		all += s.Lo
	}
	return all
}

// TestNoOrderIsBetter checks that no other order gives more for sure, and that none before gives as much.
func TestNoOrderIsBetter(t *testing.T) {
	d, better, later := &dice{5}, 0, 0
	for round := range 400 {
		n := thrownNet(d, 6)
		flow := d.span(d.from(0, 40))
		var fields, minutes []int
		many := d.from(0, 4)
		if round%80 == 0 {
			many = d.from(5, 6)
		}
		for range many {
			fields, minutes = append(fields, d.from(0, len(n.Fields)-1)), append(minutes, d.from(1, 60))
		}
		// Now and then they fill the cycle, or nearly so.
		if all := 0; len(minutes) > 0 && d.from(0, 2) == 0 {
			for _, m := range minutes[1:] {
				all += m
			}
			minutes[0] = n.Days*1440 - all - d.from(0, 2)*d.from(0, 60)
		}
		order, total, e := channel.Order(n, flow, fields, minutes)
		if e != api.OK || len(order) != len(fields) {
			t.Fatal(n, flow, fields, minutes, order, total, e)
		}
		first, most, seen := []int(nil), -1, 0
		orders(len(fields), func(o []int) {
			seen++
			_, waters, _ := tried(n, flow, taken(fields, minutes, o))
			if gives := sure(waters); gives > most {
				if most >= 0 {
					better++
				}
				first, most = o, gives
				if seen > 1 {
					later++
				}
			}
		})
		wantOrder(t, n, flow, fields, minutes, api.OK, most, first...)
		if waters, _, _ := channel.Waters(n, flow, taken(fields, minutes, order)); sure(waters) != total {
			t.Error(n, flow, fields, minutes, order, total, waters)
		}
	}
	if better < 40 || later < 40 {
		t.Error("too few orders that are better:", better, later)
	}
}

// TestTogether checks that turns of one path lose no more together than apart.
func TestTogether(t *testing.T) {
	d, less := &dice{6}, 0
	for range 2000 {
		n := thrownNet(d, 7)
		n.Dry = d.from(0, 200)
		flow := d.span(d.from(0, 40))
		fields := ints(d.from(0, len(n.Fields)-1), d.from(0, len(n.Fields)-1), d.from(0, len(n.Fields)-1))
		fields = append(fields, fields[0])
		minutes := ints(d.from(1, 99), d.from(1, 99), d.from(1, 99), d.from(1, 99))
		together, apart := taken(fields, minutes, ints(0, 3, 1, 2)), taken(fields, minutes, ints(0, 1, 2, 3))
		dries, e := channel.Dries(n, together)
		if e != api.OK || len(dries[1]) > 0 {
			t.Error(n, together, dries, e)
		}
		was, _, _ := channel.Waters(n, flow, apart)
		is, _, e := channel.Waters(n, flow, together)
		for field := range n.Fields {
			if e != api.OK || is[field].Lo < was[field].Lo || is[field].Hi < was[field].Hi {
				t.Error(n, flow, fields, minutes, field, was, is, e)
			}
		}
		if sure(is) > sure(was) {
			less++
		}
	}
	if less < 100 {
		t.Error("too few that lose less:", less)
	}
}

// noLess tells whether no field gets less for sure.
func noLess(is, was []api.Span) bool {
	return slices.EqualFunc(is, was, func(a, b api.Span) bool { return a.Lo >= b.Lo })
}

// more changes a net, a flow or uses such that no field can get less.
func more(d *dice, n api.Net, flow api.Span, l []api.Use) (api.Net, api.Span, []api.Use) {
	n.Canals, l = slices.Clone(n.Canals), slices.Clone(l)
	switch which := d.from(0, 4); {
	case which == 0:
		flow = span(d.from(flow.Lo, flow.Lo+20), flow.Hi+20)
	case which == 1 && len(n.Canals) > 0:
		c := &n.Canals[d.from(0, len(n.Canals)-1)]
		c.Seep = span(d.from(0, c.Seep.Lo), d.from(c.Seep.Lo, c.Seep.Hi))
	case which == 2 && len(n.Canals) > 0:
		c := &n.Canals[d.from(0, len(n.Canals)-1)]
		c.Fill = span(d.from(0, c.Fill.Lo), d.from(c.Fill.Lo, c.Fill.Hi))
	case which == 3:
		n.Dry = d.from(n.Dry, min(cycle, n.Dry+100))
	case which == 4 && len(l) > 0:
		i, end, begin := d.from(0, len(l)-1), n.Days*1440, 0
		if i > 0 {
			begin = l[i-1].Turn.To
		}
		if i < len(l)-1 {
			end = l[i+1].Turn.From
		}
		l[i].Turn = api.Turn{From: d.from(begin, l[i].Turn.From), To: d.from(l[i].Turn.To, end)}
	}
	return n, flow, l
}

// TestMoreIsNotLess checks that no field gets less with more flow or minutes, less seepage, and canals that stay wet longer.
func TestMoreIsNotLess(t *testing.T) {
	d, gets := &dice{7}, 0
	for range 4000 {
		n := thrownNet(d, 7)
		l, flow := thrownUses(d, n, 7), d.span(d.from(0, 40))
		m, much, long := more(d, n, flow, l)
		was, _, _ := channel.Waters(n, flow, l)
		is, _, e := channel.Waters(m, much, long)
		if e != api.OK || !noLess(is, was) {
			t.Error(n, flow, l, m, much, long, was, is, e)
		}
		if !slices.Equal(is, was) {
			gets++
		}
		field, want := d.from(0, len(n.Fields)-1), d.from(0, 9999)
		before, e := channel.Minutes(n, flow, field, want)
		after, f := channel.Minutes(m, much, field, want)
		if e == api.OK && (f != api.OK || after > before) {
			t.Error(n, flow, m, much, field, want, before, after, e, f)
		}
	}
	if gets < 1000 {
		t.Error("too few that get more:", gets)
	}
}

// narrower tells whether all of one span is in another one.
func narrower(one, other api.Span) bool {
	return other.Lo <= one.Lo && one.Lo <= one.Hi && one.Hi <= other.Hi
}

// TestBetterIsNotWider checks that with what is known better nothing is told wider.
func TestBetterIsNotWider(t *testing.T) {
	d, gets := &dice{8}, 0
	for range 3000 {
		n := thrownNet(d, 7)
		l, flow := thrownUses(d, n, 7), d.span(d.from(0, 40))
		fields, lost, _ := channel.Waters(n, flow, l)
		better := n
		better.Canals = slices.Clone(n.Canals)
		for i, c := range n.Canals {
			better.Canals[i].Seep, better.Canals[i].Fill = d.part(c.Seep), d.part(c.Fill)
		}
		is, off, e := channel.Waters(better, d.part(flow), l)
		if e != api.OK || !slices.EqualFunc(is, fields, narrower) || !slices.EqualFunc(off, lost, narrower) {
			t.Error(n, flow, l, better, fields, lost, is, off, e)
		}
		if !slices.Equal(is, fields) {
			gets++
		}
	}
	if gets < 1000 {
		t.Error("too few that are told better:", gets)
	}
}

// TestFromTheMountain checks that what flows in a gallery, whatever it is, gives each field what is told for what is told of the last shaft.
func TestFromTheMountain(t *testing.T) {
	d, wide := &dice{9}, 0
	for range 1500 {
		in := d.span(60)
		flows := []*big.Rat{d.any(in), d.any(in), d.any(in)}
		var g []api.Reach
		for range d.from(1, 4) {
			r := api.Reach{Cap: d.span(90), Leak: d.span(9), Gain: d.span(20)}
			g = append(g, r)
			for i, flow := range flows {
				if room := d.any(r.Cap); room.Cmp(flow) < 0 {
					flow = room
				}
				leak := d.any(r.Leak)
				if flow.Cmp(leak) < 0 {
					leak = flow
				}
				flows[i] = plus(minus(flow, leak), d.any(r.Gain))
			}
		}
		shafts, _, e := gallery.Flows(g, in, nil)
		if e != api.OK {
			t.Fatal(g, in, e)
		}
		last := shafts[len(g)]
		if last.Lo < last.Hi {
			wide++
		}
		n := thrownNet(d, 6)
		l := thrownUses(d, n, 5)
		// It need not be the same in each use.
		wantTrue(t, n, last, l, thrownTruth(d, n, l, func() *big.Rat { return flows[d.from(0, 2)] }))
	}
	if wide < 1000 {
		t.Error("too few flows that are not known:", wide)
	}
}

// spare returns a list with more room than it needs, full of something else.
func spare[T any](list []T, other T) []T {
	long := append(slices.Clone(list), other, other, other)
	return long[:len(list)]
}

// kept tells whether a list is still what it was, with the room behind it.
func kept[T comparable](list, was []T, other T) bool {
	return slices.Equal(list[:len(was)+3], append(slices.Clone(was), other, other, other))
}

// answers are what all functions return.
type answers struct {
	errors             []api.Errno
	path, shut, opened []int
	dries              [][]int
	waters, lost       []api.Span
	minutes, total     int
	order              []int
}

// ask calls all functions: first is the error of Check.
func ask(n api.Net, flow api.Span, l []api.Use, field, to, want int, fields, minutes []int) answers {
	var a answers
	var e [6]api.Errno
	a.path, e[0] = channel.Path(n, field)
	a.shut, a.opened, e[1] = channel.Moves(n, field, to)
	a.dries, e[2] = channel.Dries(n, l)
	a.waters, a.lost, e[3] = channel.Waters(n, flow, l)
	a.minutes, e[4] = channel.Minutes(n, flow, field, want)
	a.order, a.total, e[5] = channel.Order(n, flow, fields, minutes)
	a.errors = append([]api.Errno{channel.Check(n)}, e[:]...)
	return a
}

// TestArgumentsStay checks that nothing is written to arguments, nor to the room behind them, and that results are new.
func TestArgumentsStay(t *testing.T) {
	otherCanal, otherUse := canal(91, span(92, 93), span(94, 95)), use(96, 97, 98)
	d := &dice{10}
	for range 100 {
		was := thrownNet(d, 6)
		wasUses := thrownUses(d, was, 6)
		wasFields, wasMinutes := make([]int, 4), ints(3, 1, 4, 1)
		n, l := was, spare(wasUses, otherUse)
		n.Canals, n.Fields = spare(was.Canals, otherCanal), spare(was.Fields, 99)
		fields, minutes := spare(wasFields, 99), spare(wasMinutes, 99)
		a := ask(n, exampleFlow, l, 0, len(n.Fields)-1, 5, fields, minutes)
		// What is written to a result changes neither an argument nor another result.
		for _, list := range append(a.dries, a.path, a.shut, a.opened, a.order) {
			list = append(list, 71, 72, 73)
			for i := range list {
				list[i] = 74
			}
		}
		_ = append(a.waters, span(81, 82), span(83, 84))
		for i := range a.waters {
			a.waters[i] = span(85, 86)
		}
		if !kept(n.Canals, was.Canals, otherCanal) || !kept(n.Fields, was.Fields, 99) || !kept(l, wasUses, otherUse) || !kept(fields, wasFields, 99) || !kept(minutes, wasMinutes, 99) {
			t.Error(was, wasUses, n, l, fields, minutes)
		}
		if _, _, lost := tried(was, exampleFlow, wasUses); !slices.Equal(a.lost, lost) {
			t.Error(was, wasUses, a.lost, lost)
		}
		wantDries(t, n, l, api.OK, ask(was, exampleFlow, wasUses, 0, 0, 0, nil, nil).dries...)
	}
}

// TestResultsAreApart checks that the lists of one result share no memory.
func TestResultsAreApart(t *testing.T) {
	n := tree(0)
	dries, _ := channel.Dries(n, uses(0, 0, 5, 1, 5, 6, 2, 7, 8))
	for i, list := range dries {
		_ = append(list, 71, 72, 73)
		for k := range list {
			list[k] += 10 * i
		}
	}
	if !slices.EqualFunc(dries, [][]int{ints(1, 5, 6), ints(10, 12), ints(20, 24)}, slices.Equal) {
		t.Error(dries)
	}
	shut, open, _ := channel.Moves(n, 0, 1)
	_ = append(shut, 71, 72, 73)
	clear(shut)
	if !slices.Equal(open, ints(0, 2)) {
		t.Error(open)
	}
	path, _ := channel.Path(n, 0)
	clear(path)
	order, _, _ := channel.Order(n, exampleFlow, ints(0, 1), ints(4, 5))
	clear(order)
	TestExamples(t)
	TestPaths(t)
}

// TestAnyValue calls all functions with numbers from everywhere: each call ends, tells nothing beside an error, and all agree on what is valid.
func TestAnyValue(t *testing.T) {
	d, valid, wrong := &dice{11}, [7]int{}, [7]int{}
	throw := func() int {
		strange := [...]int{math.MinInt, math.MinInt + 1, -1, 0, 1, 999, 1000, 1001, 1440, 1441, 10000000, mostFlow, mostFlow + 1, cycle, cycle + 1, math.MaxInt - 1, math.MaxInt}
		if d.from(0, 40) == 0 {
			return strange[d.from(0, len(strange)-1)]
		}
		return d.from(0, 2)
	}
	pair := func() api.Span {
		s := span(throw(), throw())
		if d.from(0, 9) > 0 {
			s = span(min(s.Lo, s.Hi), max(s.Lo, s.Hi))
		}
		return s
	}
	for range 6000 {
		n := api.Net{Dry: throw(), Days: throw()}
		for i := range d.from(0, 3) {
			n.Canals = append(n.Canals, canal(min(i, throw()), pair(), pair()))
		}
		n.Fields = d.mixed(len(n.Canals) + 1)
		n.Fields[0] = max(n.Fields[0], throw()-2)
		at := throw()
		var l []api.Use
		for range d.from(0, 2) {
			l = append(l, use(min(throw(), 1), at, at+1+throw()))
			at += 2
		}
		a := ask(n, pair(), l, throw(), throw(), throw(), ints(throw(), throw()), ints(throw(), throw()))
		nothing := []bool{true, len(a.path) == 0, len(a.shut)+len(a.opened) == 0, len(a.dries) == 0, len(a.waters)+len(a.lost) == 0, a.minutes == 0, len(a.order) == 0 && a.total == 0}
		for i, e := range a.errors {
			if (a.errors[0] == api.ErrNet) != (e == api.ErrNet) || e != api.OK && !nothing[i] {
				t.Error(n, l, i, a)
			}
			if e == api.OK {
				valid[i]++
			} else if e != api.ErrNet {
				wrong[i]++
			}
		}
	}
	for i := range valid {
		if valid[i] < 200 || i > 0 && wrong[i] < 200 {
			t.Error("too few of a kind:", valid, wrong)
		}
	}
}
