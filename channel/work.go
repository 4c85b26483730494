package channel

import (
	"iter"
	"maps"
	"slices"

	"aflaj/api"
)

// work is a net at work: flow is what comes to the node 0 each minute.
type work struct {
	api.Net
	flow api.Span
}

// begin returns a net at work to which nothing flows, or the error of the net.
func begin(n api.Net) (work, api.Errno) { return work{Net: n}, Check(n) }

// fed returns a net at work to which water flows, or the error of the net or of the flow.
func fed(n api.Net, flow api.Span) (work, api.Errno) {
	w, e := begin(n)
	if e == api.OK && !within(flow, mostFlow) {
		e = api.ErrFlow
	}
	w.flow = flow
	return w, e
}

// cycle returns how many minutes a cycle has.
func (w work) cycle() int { return w.Days * api.DayLong }

// isField tells whether a number is the index of a field.
func (w work) isField(field int) bool { return between(field, 0, len(w.Fields)-1) }

// areUses tells whether uses are valid.
func (w work) areUses(uses []api.Use) bool {
	ended := 0
	for _, u := range uses {
		if !w.isField(u.Field) || u.Turn.From < ended || u.Turn.To <= u.Turn.From {
			return false
		}
		ended = u.Turn.To
	}
	return len(uses) <= api.MaxUses && ended <= w.cycle()
}

// areTurns tells whether turns of fields, of so many minutes, may be taken one after the other in a cycle.
func (w work) areTurns(fields, minutes []int) bool {
	if len(fields) != len(minutes) {
		return false
	}
	left := w.cycle()
	for k, field := range fields {
		if !w.isField(field) || !between(minutes[k], 1, left) {
			return false
		}
		left -= minutes[k]
	}
	return true
}

// path yields the canals from the node 0 to a field.
func (w work) path(field int) iter.Seq[int] {
	return func(yield func(int) bool) {
		var up []int
		for node := w.Fields[field]; node > 0; node = w.Canals[node-1].From {
			up = append(up, node-1)
		}
		for _, c := range slices.Backward(up) {
			if !yield(c) {
				return
			}
		}
	}
}

// apart returns the canals that are in the path of one field, and not in that of another one.
func (w work) apart(one, other int) []int {
	stones := map[int]bool{}
	for c := range w.path(one) {
		stones[c] = true
	}
	for c := range w.path(other) {
		delete(stones, c)
	}
	return slices.Sorted(maps.Keys(stones))
}

// before returns when each canal carried water last in the cycle before, in minutes of this one.
func (w work) before(uses []api.Use) map[int]int {
	last := map[int]int{}
later:
	for _, u := range slices.Backward(uses) {
		for c := range w.path(u.Field) {
			if len(last) == len(w.Canals) {
				// What was still earlier is not the last of any canal.
				break later
			}
			if _, has := last[c]; !has {
				last[c] = u.Turn.To - w.cycle()
			}
		}
	}
	return last
}

// dries returns for each use the canals of its path that are dry at its beginning.
func (w work) dries(uses []api.Use) [][]int {
	var all [][]int
	last := w.before(uses)
	for _, u := range uses {
		var dry []int
		for c := range w.path(u.Field) {
			if u.Turn.From-last[c] > w.Dry {
				dry = append(dry, c)
			}
			last[c] = u.Turn.To
		}
		all = append(all, dry)
	}
	return all
}

// canal is a canal at work.
type canal struct{ api.Canal }

// wet tells what goes out of a canal, and what is lost in it, if it was wet.
func (c canal) wet(in api.Span) (out, lost api.Span) { return c.through(in, api.Span{}) }

// dry tells that of a canal that was dry.
func (c canal) dry(in api.Span) (out, lost api.Span) { return c.through(in, c.Fill) }

// through tells that of a canal that soaks up some of what goes in.
func (c canal) through(in, soaks api.Span) (out, lost api.Span) {
	out = api.Span{
		Lo: stays(in.Lo, soaks.Hi, c.Seep.Hi) / api.Whole,
		Hi: roundUp(stays(in.Hi, soaks.Lo, c.Seep.Lo)),
	}
	// What is lost is not told of what is told to go out: least goes out with the greatest Seep, and least is lost with the least one.
	lost = api.Span{
		Lo: in.Lo - roundUp(stays(in.Lo, soaks.Lo, c.Seep.Lo)),
		Hi: in.Hi - stays(in.Hi, soaks.Hi, c.Seep.Hi)/api.Whole,
	}
	return out, lost
}

// stays returns how many thousandths of a litre are left of litres, after some are soaked up, and some thousandths of the rest seep away.
func stays(litres, soaked, seeps int) int { return max(litres-soaked, 0) * (api.Whole - seeps) }

// led returns what a field gets of the flow of some minutes, if these canals of its path are dry, and what is lost in each canal.
func (w work) led(field, minutes int, dry []int) (gets api.Span, lost []api.Span) {
	lost = make([]api.Span, len(w.Canals))
	gets = api.Span{Lo: w.flow.Lo * minutes, Hi: w.flow.Hi * minutes}
	for c := range w.path(field) {
		goes := canal{w.Canals[c]}.wet
		if slices.Contains(dry, c) {
			goes = canal{w.Canals[c]}.dry
		}
		gets, lost[c] = goes(gets)
	}
	return gets, lost
}

// waters returns what each field gets, and what is lost in each canal, in all uses.
func (w work) waters(uses []api.Use) (fields, lost []api.Span) {
	fields, lost = make([]api.Span, len(w.Fields)), make([]api.Span, len(w.Canals))
	for i, dry := range w.dries(uses) {
		u := uses[i]
		gets, gone := w.led(u.Field, u.Turn.To-u.Turn.From, dry)
		fields[u.Field] = sum(fields[u.Field], gets)
		for c := range lost {
			lost[c] = sum(lost[c], gone[c])
		}
	}
	return fields, lost
}

// inOrder returns the uses of turns that are taken one after the other in an order.
func inOrder(fields, minutes, order []int) []api.Use {
	var uses []api.Use
	from := 0
	for _, k := range order {
		to := from + minutes[k]
		uses = append(uses, api.Use{Field: fields[k], Turn: api.Turn{From: from, To: to}})
		from = to
	}
	return uses
}

// best returns the first order of turns in which all fields together get most for sure, and how much.
func (w work) best(fields, minutes []int) (order []int, most int) {
	// Less than any order gives, so that the first one counts.
	most = -1
	var tried []int
	var try func()
	try = func() {
		if len(tried) == len(fields) {
			gets, _ := w.waters(inOrder(fields, minutes, tried))
			if total := sum(gets...).Lo; total > most {
				order, most = slices.Clone(tried), total
			}
			return
		}
		for k := range fields {
			if !slices.Contains(tried, k) {
				tried = append(tried, k)
				try()
				tried = tried[:len(tried)-1]
			}
		}
	}
	try()
	return order, most
}
