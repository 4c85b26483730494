package palm

import "aflaj/api"

// left is what is left of hours and lots: whether an hour has no dust yet, and how many units a lot has still.
type left struct {
	hours [api.MaxHours]bool
	lots  [api.MaxLots]int
}

// has tells whether there is something left of an hour and of a lot.
func (l left) has(hour, lot int) bool { return l.hours[hour] && l.lots[lot] > 0 }

// after returns what is left after a dust.
func (l left) after(hour, lot int) left {
	l.hours[hour] = false
	l.lots[lot]--
	return l
}

// free returns the set of the hours that have no dust yet.
func (l left) free() set {
	var s set
	for h, is := range l.hours {
		if is {
			s = s.with(h)
		}
	}
	return s
}

// units returns how many units the lots of a set have still.
func (l left) units(lots set) int {
	sum := 0
	for i, n := range l.lots {
		if lots.has(i) {
			sum += n
		}
	}
	return sum
}

// flow is what may flow in a job: for each set of its spathes the hours in which one of them can be pollinated, and for each set of its lots those in which one is good.
type flow struct {
	job
	asks, gives []set
}

// flow returns what may flow in a job.
func (j job) flow() flow {
	asks, gives := make([]set, len(j.Spathes)), make([]set, len(j.Lots))
	for s := range asks {
		asks[s] = setOf(j.slots(s))
	}
	for lot := range gives {
		gives[lot] = setOf(j.times(lot))
	}
	return flow{j, together(asks), together(gives)}
}

// left returns what is left before the first dust.
func (f flow) left() left {
	var l left
	for h := range f.Hours {
		l.hours[h] = true
	}
	for i, lot := range f.Lots {
		l.lots[i] = lot.Units
	}
	return l
}

// most returns how many of the spathes from one on can be pollinated with what is left.
func (f flow) most(from int, l left) int {
	// As much flows as the narrowest place lets through: it is what the least cover proves. Asks and gives are the spathes and lots that it does not name, which leaves it no choice of hours.
	many := len(f.Spathes) - from
	least, free, lots := many, l.free(), all(len(f.Lots))
	for gives := range lots + 1 {
		good, units := free&f.gives[gives], l.units(lots&^gives)
		for asks := range all(many) + 1 {
			hours := good & f.asks[asks<<from]
			least = min(least, many-asks.many()+hours.many()+units)
		}
	}
	return least
}

// plan returns the first of the greatest plans.
func (f flow) plan() []api.Dust {
	var plan []api.Dust
	l := f.left()
	most := f.most(0, l)
spathes:
	for s := range f.Spathes {
		for h := range f.slots(s) {
			for lot := range f.Lots {
				if !f.gives[1<<lot].has(h) || !l.has(h, lot) {
					continue
				}
				if later := l.after(h, lot); f.most(s+1, later) == most-1 {
					plan = append(plan, api.Dust{Spathe: s, Hour: h, Lot: lot})
					l, most = later, most-1
					continue spathes
				}
			}
		}
	}
	return plan
}

// marks are the spathes and lots that are marked, and the hours that are asked, and that are open.
type marks struct{ spathes, asked, open, lots set }

// marks returns the marks of a plan.
func (f flow) marks(plan []api.Dust) marks {
	m := marks{spathes: all(len(f.Spathes))}
	for _, d := range plan {
		m.spathes &^= 1 << d.Spathe
	}
	for {
		more := f.more(m, plan)
		if more == m {
			return m
		}
		m = more
	}
}

// more returns marks of a plan with those that follow from them.
func (f flow) more(m marks, plan []api.Dust) marks {
	var dusts set
	for _, d := range plan {
		dusts = dusts.with(d.Hour)
	}
	m.asked |= f.asks[m.spathes]
	m.open |= m.asked &^ dusts
	for lot := range f.Lots {
		if f.gives[1<<lot]&m.open != 0 {
			m.lots = m.lots.with(lot)
		}
	}
	for _, d := range plan {
		if m.lots.has(d.Lot) {
			m.open = m.open.with(d.Hour)
		}
		if m.open.has(d.Hour) {
			m.asked = m.asked.with(d.Hour)
		}
		if m.asked.has(d.Hour) {
			m.spathes = m.spathes.with(d.Spathe)
		}
	}
	return m
}

// cover returns the cover that marks tell.
func (f flow) cover(m marks) api.Cover {
	return api.Cover{
		Spathes: (^m.spathes).indices(len(f.Spathes)),
		Hours:   (m.asked &^ m.open).indices(len(f.Hours)),
		Lots:    m.lots.indices(len(f.Lots)),
	}
}

// proves returns how many dusts a cover proves that there are at most, and whether it is a cover.
func (f flow) proves(c api.Cover) (int, bool) {
	spathes, areSpathes := named(f.Spathes, c.Spathes)
	hours, areHours := named(f.Hours, c.Hours)
	lots, areLots := named(f.Lots, c.Lots)
	if !areSpathes || !areHours || !areLots {
		return 0, false
	}
	asks, gives := f.asks[all(len(f.Spathes))&^spathes], f.gives[all(len(f.Lots))&^lots]
	if asks&gives&^hours != 0 {
		return 0, false
	}
	return spathes.many() + hours.many() + f.left().units(lots), true
}
