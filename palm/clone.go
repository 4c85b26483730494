package palm

import (
	"cmp"
	"slices"

	"aflaj/api"
)

// noMother is the mother of a palm that is no offshoot.
const noMother = -1

// arePalms tells whether palms are valid.
func arePalms(l []api.Palm) bool {
	if len(l) > api.MaxPalms {
		return false
	}
	next := 0
	for _, p := range l {
		if !within(api.Span{Lo: next, Hi: api.MaxId}, p.Id) || !isPalm(p) || !isShoot(p, l) {
			return false
		}
		next = p.Id + 1
	}
	return true
}

// isPalm tells whether what a palm has of its own is valid.
func isPalm(p api.Palm) bool {
	return within(upTo(api.MaxDay), p.Planted) && within(upTo(api.SexMale), int(p.Sex)) && within(upTo(api.MaxSort), p.Sort)
}

// isShoot tells whether a palm has no mother, or one among palms that was planted long enough before it.
func isShoot(p api.Palm, l []api.Palm) bool {
	return p.Mother == noMother || slices.ContainsFunc(l, func(mother api.Palm) bool {
		return mother.Id == p.Mother && mother.Planted <= p.Planted-api.MinShoot
	})
}

// clones returns the Ids of the clones of a palm.
func clones(l []api.Palm, id int) map[int]bool {
	found := map[int]bool{}
	var find func(id int)
	find = func(id int) {
		if found[id] {
			return
		}
		found[id] = true
		for _, p := range l {
			if p.Id == id && p.Mother != noMother {
				find(p.Mother)
			}
			if p.Mother == id {
				find(p.Id)
			}
		}
	}
	find(id)
	return found
}

// alike tells whether nothing that is told of a palm differs from what is told of another one.
func alike(a, b api.Palm) bool {
	return isAlike(a.Sex, b.Sex) && isAlike(a.Sort, b.Sort)
}

// isAlike tells it of one thing that is told of both: 0 tells nothing.
func isAlike[T uint8 | int](a, b T) bool { return a == 0 || b == 0 || a == b }

// like returns a palm with what is told of a clone where nothing is told of it.
func like(p, clone api.Palm) api.Palm {
	p.Sex = cmp.Or(p.Sex, clone.Sex)
	p.Sort = cmp.Or(p.Sort, clone.Sort)
	return p
}
