package deed

import (
	"cmp"
	"iter"
	"slices"

	"aflaj/api"
)

// cycle returns the minutes of a cycle of so many days.
func cycle(days int) api.Turn { return api.Turn{From: 0, To: days * api.DayLong} }

// between tells whether a number is from low to high.
func between(n, low, high int) bool { return low <= n && n <= high }

// isPerson tells whether an Id is one of a person, and not the mosque's.
func isPerson(id int) bool { return between(id, 1, api.MaxId) }

// within tells whether a turn has minutes, all of them in another one.
func within(t, whole api.Turn) bool {
	return whole.From <= t.From && t.From < t.To && t.To <= whole.To
}

// follow tells whether the turns of the things of a list follow one another through a whole turn.
func follow[T any](list []T, turn func(T) api.Turn, whole api.Turn) bool {
	end := whole.From
	for _, thing := range list {
		t := turn(thing)
		if t.From != end || t.To <= t.From {
			return false
		}
		end = t.To
	}
	return end == whole.To
}

// divide returns what each thing of a list gets of n by its parts. What rounding leaves goes to those of whom most was cut off, and of several ones to the first ones.
func divide[T any](n int, list []T, parts func(T) int) []int {
	all := 0
	for _, thing := range list {
		all += parts(thing)
	}
	left := n
	var gets, cut []int
	for _, thing := range list {
		share := n * parts(thing)
		gets, cut = append(gets, share/all), append(cut, share%all)
		left -= share / all
	}
	for range left {
		most := slices.Index(cut, slices.Max(cut))
		gets[most]++
		// Less than was cut off of anyone: nobody gets two.
		cut[most] = -1
	}
	return gets
}

// minutes yields the minutes of a turn.
func minutes(t api.Turn) iter.Seq[int] {
	return func(yield func(int) bool) {
		for i := range t.To - t.From {
			if !yield(t.From + i) {
				return
			}
		}
	}
}

// runs yields the holds of those who have the minutes of a cycle, each as long as may be.
func runs(who []int) iter.Seq[api.Hold] {
	return func(yield func(api.Hold) bool) {
		from := 0
		for minute := range len(who) {
			to := minute + 1
			if to < len(who) && who[to] == who[from] {
				continue
			}
			if !yield(api.Hold{Who: who[from], Turn: api.Turn{From: from, To: to}}) {
				return
			}
			from = to
		}
	}
}

// areHolds tells whether holds are valid for a cycle.
func areHolds(holds []api.Hold, whole api.Turn) bool {
	if len(holds) > api.MaxHolds {
		return false
	}
	for _, h := range holds {
		if !between(h.Who, api.Mosque, api.MaxId) {
			return false
		}
	}
	return follow(holds, func(h api.Hold) api.Turn { return h.Turn }, whole)
}

// areHeirs tells whether heirs are valid for somebody who dies.
func areHeirs(heirs []api.Heir, dies int) bool {
	if !between(len(heirs), 1, api.MaxHeirs) {
		return false
	}
	before := api.Mosque
	for _, h := range heirs {
		if !between(h.Who, before+1, api.MaxId) || h.Who == dies || !between(h.Parts, 1, api.MaxParts) {
			return false
		}
		before = h.Who
	}
	return true
}

// isDeed tells whether a deed is valid for a cycle.
func isDeed(d api.Deed, whole api.Turn) bool {
	its, known := kinds()[d.Kind]
	return known && between(d.Id, 0, api.MaxId) && between(d.Day, 0, api.MaxDay) && isPerson(d.From) &&
		either(its.to, isPerson(d.To) && d.To != d.From, d.To == 0) &&
		either(its.turn, within(d.Turn, whole), d.Turn == api.Turn{}) &&
		either(its.until, between(d.Until, d.Day+1, api.MaxDay+1), d.Until == 0) &&
		either(its.heirs, areHeirs(d.Heirs, d.From), len(d.Heirs) == 0)
}

// either tells of what a kind names whether it is valid, and of all else whether it is nothing.
func either(named, valid, nothing bool) bool {
	if named {
		return valid
	}
	return nothing
}

// same tells whether two deeds do not differ.
func same(one, other api.Deed) bool {
	return one.Id == other.Id && one.Day == other.Day && one.Kind == other.Kind && one.From == other.From && one.To == other.To &&
		one.Turn == other.Turn && one.Until == other.Until && slices.Equal(one.Heirs, other.Heirs)
}

// by returns the order of deeds by the first of several numbers in which they differ.
func by(numbers ...func(api.Deed) int) func(one, other api.Deed) int {
	return func(one, other api.Deed) int {
		for _, number := range numbers {
			if order := cmp.Compare(number(one), number(other)); order != 0 {
				return order
			}
		}
		return 0
	}
}

// inOrder returns deeds in the order in which they are done, each one once, or the error of the rolls or of them.
func inOrder(r api.Rolls, l []api.Deed) ([]api.Deed, api.Errno) {
	if e := Check(r); e != api.OK {
		return nil, e
	}
	if len(l) > api.MaxDeeds {
		return nil, api.ErrMany
	}
	for _, d := range l {
		if !isDeed(d, cycle(r.Days)) {
			return nil, api.ErrDeed
		}
	}
	var deeds []api.Deed
	first := map[int]api.Deed{}
	for _, d := range l {
		other, has := first[d.Id]
		if !has {
			first[d.Id] = d
			// A copy: these deeds are a result of Read.
			d.Heirs = append([]api.Heir(nil), d.Heirs...)
			deeds = append(deeds, d)
		} else if !same(d, other) {
			return nil, api.ErrTwo
		}
	}
	slices.SortFunc(deeds, by(func(d api.Deed) int { return d.Day }, func(d api.Deed) int { return d.Id }))
	return deeds, api.OK
}
