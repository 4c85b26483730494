package date

import (
	"iter"
	"slices"

	"aflaj/api"
)

// grades are those that a date may have.
type grades [3]bool

// after returns the grades that a date may have so many days after it ripened.
func after(f api.Fruit, days int) grades {
	wet := less(f.Wet, times(f.Dry, days))
	return grades{
		api.GradeSoft: wet.Hi >= f.Soft,
		// A date has any moisture of the span, but none is between Soft and Half if these are equal.
		api.GradeHalf: wet.Hi >= f.Half && wet.Lo < f.Soft && f.Half < f.Soft,
		api.GradeDry:  wet.Lo < f.Half,
	}
}

// bounds returns the least and the greatest grade.
func (g grades) bounds() (first, last uint8) {
	first = api.GradeDry
	for grade, may := range g {
		if may {
			first, last = min(first, uint8(grade)), uint8(grade)
		}
	}
	return first, last
}

// of returns how many of some dates have a grade.
func (g grades) of(grade int, dates api.Span) api.Span {
	if !g[grade] {
		return api.Span{}
	}
	if first, last := g.bounds(); first < last {
		return api.Span{Hi: dates.Hi}
	}
	return dates
}

// worth returns what some dates are worth.
func (g grades) worth(dates api.Span, prices [3]int) api.Span {
	var costs []int
	for grade, may := range g {
		if may {
			costs = append(costs, prices[grade])
		}
	}
	return api.Span{Lo: dates.Lo * slices.Min(costs), Hi: dates.Hi * slices.Max(costs)}
}

// bunch is a bunch at work: its fruit, and its cuts.
type bunch struct {
	api.Bunch
	fruit api.Fruit
	cuts  []int
}

// fate is what becomes of dates.
type fate uint8

const (
	cut fate = iota
	fall
	hang
)

// end is what a fate does: how many days after they ripened the dates of a day meet it, and what those that birds left add to a yield then.
type end struct {
	days func(day int) int
	adds func(y *api.Yield, left api.Span, days int)
}

// ends returns what each fate does.
func (b bunch) ends() map[fate]end {
	return map[fate]end{
		cut: {
			days: func(day int) int { return b.later(day)[0] - day },
			adds: b.pick,
		},
		fall: {
			days: func(int) int { return b.fruit.Keep + 1 },
			adds: func(y *api.Yield, left api.Span, _ int) { y.Fallen = sum(y.Fallen, left) },
		},
		hang: {
			days: func(day int) int { return len(b.Ripe) - 1 - day },
			adds: func(y *api.Yield, left api.Span, _ int) { y.Left = sum(y.Left, left) },
		},
	}
}

// pick adds dates to a yield that are cut so many days after they ripened.
func (b bunch) pick(y *api.Yield, left api.Span, days int) {
	may := after(b.fruit, days)
	for grade := range y.Grades {
		y.Grades[grade] = sum(y.Grades[grade], may.of(grade, left))
	}
	y.Worth = sum(y.Worth, may.worth(left, b.fruit.Prices))
}

// later returns the cuts on a day and after it.
func (b bunch) later(day int) []int {
	at, _ := slices.BinarySearch(b.cuts, day)
	return b.cuts[at:]
}

// fate returns what becomes of the dates that ripened on a day.
func (b bunch) fate(day int) fate {
	falls := day + b.fruit.Keep + 1
	if later := b.later(day); len(later) > 0 && later[0] < falls {
		return cut
	}
	if falls < len(b.Ripe) {
		return fall
	}
	return hang
}

// fates yields the days with what becomes of the dates that ripened on each.
func (b bunch) fates() iter.Seq2[int, fate] {
	return func(yield func(int, fate) bool) {
		for day := range b.Ripe {
			if !yield(day, b.fate(day)) {
				return
			}
		}
	}
}

// wanted returns how many of the dates of a day birds take in so many days, if there are enough.
func (b bunch) wanted(days int) api.Span {
	if b.Covered {
		return api.Span{}
	}
	return times(b.Birds, days)
}

// yield returns what the bunch yields.
func (b bunch) yield() api.Yield {
	var y api.Yield
	ends := b.ends()
	for day, fate := range b.fates() {
		its := ends[fate]
		days := its.days(day)
		birds := b.wanted(days)
		y.Taken = sum(y.Taken, lesser(b.Ripe[day], birds))
		its.adds(&y, less(b.Ripe[day], birds), days)
	}
	return y
}

// best returns the cuts with at most so many days that are worth most for sure, and what they are worth.
func (b bunch) best(most int) (best []int, worth int) {
	var try func(cuts []int, next, more int)
	try = func(cuts []int, next, more int) {
		if more > 0 {
			for day := next; day <= len(b.Ripe)-more; day++ {
				try(append(cuts, day), day+1, more-1)
			}
			return
		}
		b.cuts = cuts
		// Cuts with fewer days, and of these the first ones, were tried before: they stay unless these are worth more.
		if sure := b.yield().Worth.Lo; sure > worth {
			best, worth = slices.Clone(cuts), sure
		}
	}
	for many := range most + 1 {
		try(nil, 0, many)
	}
	return best, worth
}
