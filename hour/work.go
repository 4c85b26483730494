package hour

import (
	"iter"
	"slices"

	"aflaj/api"
)

// clock is a clock at work on a day.
type clock struct {
	api.Clock
	day int
}

// begin returns a clock at work, or the error of the clock or the day.
func begin(k api.Clock, day int) (clock, api.Errno) {
	if e := Check(k); e != api.OK {
		return clock{}, e
	}
	if day < 0 || day > api.MaxDay {
		return clock{}, api.ErrArg
	}
	return clock{k, day}, api.OK
}

// kind is a kind of tellings: which are valid, and what those tell.
type kind struct {
	valid func(api.Telling) bool
	tells func(api.Telling) ends
}

// kinds returns what tellings of each kind tell.
func (k clock) kinds() map[uint8]kind {
	return map[uint8]kind{
		api.TellMark: {
			valid: func(t api.Telling) bool { return 0 <= t.Which && t.Which < len(k.Marks) },
			tells: func(t api.Telling) ends { return scaled(k.Marks[t.Which], api.Whole) },
		},
		api.TellBetween: {
			valid: func(t api.Telling) bool { return 0 <= t.Which && t.Which < len(k.Marks)-1 },
			tells: func(t api.Telling) ends {
				return scaled(api.Span{Lo: k.Marks[t.Which].Lo, Hi: k.Marks[t.Which+1].Hi}, api.Whole)
			},
		},
		api.TellStar: {
			valid: func(t api.Telling) bool {
				return 0 <= t.Which && t.Which < len(k.Stars) && 0 <= t.Hands && t.Hands <= api.MaxHands
			},
			tells: func(t api.Telling) ends {
				star := k.Stars[t.Which]
				rises := scaled(star.Rise, api.Whole).earlier(scaled(star.Shift, k.day))
				return rises.later(scaled(k.Hand, t.Hands))
			},
		},
		api.TellWord: {
			valid: func(t api.Telling) bool { return areMinutes(t.Word) },
			tells: func(t api.Telling) ends { return scaled(t.Word, api.Whole) },
		},
	}
}

// valid tells whether all tellings are valid.
func (k clock) valid(l []api.Telling) bool {
	kinds := k.kinds()
	return every(l, func(t api.Telling) bool {
		its, known := kinds[t.Kind]
		return known && its.valid(t)
	})
}

// tells returns what each of some valid tellings tells.
func (k clock) tells(l []api.Telling) []ends {
	kinds := k.kinds()
	var all []ends
	for _, t := range l {
		all = append(all, kinds[t.Kind].tells(t))
	}
	return all
}

// all returns what tellings tell together.
func (k clock) all(l []api.Telling) (ends, api.Errno) {
	if len(l) > api.MaxTells {
		return ends{}, api.ErrMany
	}
	if !k.valid(l) {
		return ends{}, api.ErrTelling
	}
	if len(l) == 0 {
		return ends{}, api.ErrNone
	}
	told := cut(k.tells(l)...)
	if told == never {
		return ends{}, api.ErrClash
	}
	return told, api.OK
}

// isChange tells whether a change is valid, wherever it is in its list.
func (k clock) isChange(c api.Change) bool {
	return len(c.Told) <= api.MaxTells && k.valid(c.Told) && 0 <= c.Bowls && c.Bowls <= api.MaxBowls
}

// since returns how much later a change is than the one before.
func (k clock) since(c api.Change) ends {
	much := scaled(k.Sinks, c.Bowls)
	if !c.Full {
		much[1] += k.Sinks.Hi
	}
	return much
}

// moments yields the moment of each change, as far as it is told by the changes up to it.
func (k clock) moments(l []api.Change) iter.Seq2[int, ends] {
	return func(yield func(int, ends) bool) {
		moment := always
		for i, c := range l {
			moment = cut(append(k.tells(c.Told), moment.later(k.since(c)))...)
			if !yield(i, moment) {
				return
			}
		}
	}
}

// told returns the minutes of moments that are told by the changes up to them: those that the changes after them allow, too.
func (k clock) told(l []api.Change, moments []ends) []api.Span {
	spans := make([]api.Span, len(moments))
	next := always
	for i, c := range slices.Backward(l) {
		moment := cut(moments[i], next)
		spans[i] = moment.minutes()
		next = moment.earlier(k.since(c))
	}
	return spans
}
