package deed

import "aflaj/api"

// register is rolls at work: whose each minute is, to whom it was let last, and until which day.
type register struct {
	api.Rolls
	owner, tenant, until []int
	dead                 map[int]bool
}

// begin returns the register before all deeds.
func begin(r api.Rolls) *register {
	long := cycle(r.Days).To
	w := &register{r, make([]int, long), make([]int, long), make([]int, long), map[int]bool{}}
	for _, h := range w.Holds {
		w.give(h.Turn, h.Who)
	}
	return w
}

// after returns the register after all deeds until a day, or the error of the rolls, the deeds or the day.
func after(r api.Rolls, l []api.Deed, day int) (*register, api.Errno) {
	deeds, e := inOrder(r, l)
	if e != api.OK {
		return nil, e
	}
	if !between(day, 0, api.MaxDay) {
		return nil, api.ErrArg
	}
	w := begin(r)
	for _, d := range deeds {
		if d.Day <= day {
			w.do(d)
		}
	}
	return w, api.OK
}

// user returns who uses a minute on a day that is not before the deeds that were done.
func (w *register) user(minute, day int) int {
	if w.until[minute] > day {
		return w.tenant[minute]
	}
	return w.owner[minute]
}

// users returns who uses each minute on a day.
func (w *register) users(day int) []int {
	var all []int
	for minute := range w.Days * api.DayLong {
		all = append(all, w.user(minute, day))
	}
	return all
}

// give makes somebody the owner of the minutes of a turn.
func (w *register) give(t api.Turn, who int) {
	for minute := range minutes(t) {
		w.owner[minute] = who
	}
}

// void is why a deed is void: a need that is not met ends by a panic with it.
type void uint8

// step is one of the things that deeds need or do.
type step func(*register, api.Deed)

// kind is what deeds of a kind name beside what all name, what they need, in this order, and what they do.
type kind struct {
	to, turn, until, heirs bool
	needs                  []step
	does                   step
}

// kinds returns the kinds of deeds.
func kinds() map[uint8]kind {
	return map[uint8]kind{
		api.DeedSale:  {to: true, turn: true, needs: []step{(*register).alive, (*register).his}, does: (*register).sale},
		api.DeedGift:  {turn: true, needs: []step{(*register).alive, (*register).his}, does: (*register).gift},
		api.DeedDeath: {heirs: true, needs: []step{(*register).alive}, does: (*register).death},
		api.DeedRent:  {to: true, turn: true, until: true, needs: []step{(*register).alive, (*register).his, (*register).free}, does: (*register).rent},
	}
}

// do does a deed, and returns why it is void.
func (w *register) do(d api.Deed) (why uint8) {
	defer func() {
		is, _ := recover().(void)
		why = uint8(is)
	}()
	its := kinds()[d.Kind]
	for _, needs := range its.needs {
		needs(w, d)
	}
	its.does(w, d)
	return api.VoidNot
}

// alive is needed by all deeds. The mosque, the To of those that name none, does not die.
func (w *register) alive(d api.Deed) {
	if w.dead[d.From] || w.dead[d.To] {
		panic(void(api.VoidDead))
	}
}

// his is that From owns all minutes of a deed.
func (w *register) his(d api.Deed) {
	for minute := range minutes(d.Turn) {
		if w.owner[minute] != d.From {
			panic(void(api.VoidHis))
		}
	}
}

// free is that no minute of a deed is let on its day.
func (w *register) free(d api.Deed) {
	for minute := range minutes(d.Turn) {
		if w.until[minute] > d.Day {
			panic(void(api.VoidLet))
		}
	}
}

func (w *register) sale(d api.Deed) { w.give(d.Turn, d.To) }

func (w *register) gift(d api.Deed) { w.give(d.Turn, api.Mosque) }

func (w *register) rent(d api.Deed) {
	for minute := range minutes(d.Turn) {
		w.tenant[minute], w.until[minute] = d.To, d.Until
	}
}

func (w *register) death(d api.Deed) {
	w.dead[d.From] = true
	var left []int
	for minute := range w.Days * api.DayLong {
		if w.owner[minute] == d.From {
			left = append(left, minute)
		}
		if w.tenant[minute] == d.From {
			w.until[minute] = 0
		}
	}
	heirs := w.living(d.Heirs)
	for i, n := range divide(len(left), heirs, func(h api.Heir) int { return h.Parts }) {
		for _, minute := range left[:n] {
			w.owner[minute] = heirs[i].Who
		}
		left = left[n:]
	}
}

// living returns those heirs who are not dead, or the mosque if all are.
func (w *register) living(heirs []api.Heir) []api.Heir {
	var alive []api.Heir
	for _, h := range heirs {
		if !w.dead[h.Who] {
			alive = append(alive, h)
		}
	}
	if len(alive) == 0 {
		return []api.Heir{{Who: api.Mosque, Parts: 1}}
	}
	return alive
}
