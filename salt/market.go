package salt

import (
	"cmp"
	"math/bits"
	"slices"

	"aflaj/api"
)

// set is fields: the field f is one of them if the bit f is.
type set int

// sets is how many sets of fields there are.
const sets = 1 << api.MaxNeeds

// setOf returns the set of some fields.
func setOf(fields []int) set {
	var s set
	for _, f := range fields {
		s |= 1 << f
	}
	return s
}

// has tells whether a field is one of a set.
func (s set) has(field int) bool { return s>>field&1 == 1 }

// fields returns the fields of a set in ascending order.
func (s set) fields() []int {
	var l []int
	for f := range api.MaxNeeds {
		if s.has(f) {
			l = append(l, f)
		}
	}
	return l
}

// fewer compares how many fields two sets have.
func fewer(a, b set) int { return cmp.Compare(bits.OnesCount(uint(a)), bits.OnesCount(uint(b))) }

// first compares the lists of two sets of as many fields: of two such lists the one is first that has the least field that only one of them has.
func first(a, b set) int { return cmp.Compare(bits.Reverse(uint(b)), bits.Reverse(uint(a))) }

// lot is a rent at work: whose its fields are.
type lot struct {
	api.Rent
	whose set
}

// market is what fields need still, and what rents have still; dearest is the rents by their prices.
type market struct {
	lots    []lot
	dearest []int
	needs   [api.MaxNeeds]int
	left    [api.MaxRents]int
}

// open returns a market of needs and rents, or the error if they are not valid.
func open(needs []int, rents []api.Rent) (market, api.Errno) {
	var m market
	if !areNeeds(needs) || !areRents(rents, len(needs)) {
		return m, api.ErrRents
	}
	copy(m.needs[:], needs)
	for i, r := range rents {
		m.lots = append(m.lots, lot{r, setOf(r.Fields)})
		m.left[i] = r.Minutes
		m.dearest = append(m.dearest, i)
	}
	dearer := func(a, b int) int { return cmp.Compare(rents[b].Price, rents[a].Price) }
	slices.SortFunc(m.dearest, func(a, b int) int { return inOrder(a, b, dearer, cmp.Compare[int]) })
	return m, api.OK
}

// spare returns what rents have for each set of fields, more than these need: below 0 if they lack minutes.
func (m market) spare() [sets]int {
	var all [sets]int
	for s := range set(sets) {
		for i, l := range m.lots {
			if l.whose&s != 0 {
				all[s] += m.left[i]
			}
		}
		for f, n := range m.needs {
			if s.has(f) {
				all[s] -= n
			}
		}
	}
	return all
}

// lack returns the first set of the fewest fields that lack minutes, and whether there is one.
func (m market) lack() (set, bool) {
	var least set
	for s, n := range m.spare() {
		if n < 0 && (least == 0 || inOrder(set(s), least, fewer, first) < 0) {
			least = set(s)
		}
	}
	// No fields lack nothing, so that they are none that do.
	return least, least != 0
}

// cost returns what the cheapest plan costs, if no fields lack minutes.
func (m market) cost() int {
	spare, cost := m.spare(), 0
	// Of the dearest rent first: what no set of fields would lack without it is not rented.
	for _, i := range m.dearest {
		leaves := m.left[i]
		for s, n := range spare {
			if m.lots[i].whose&set(s) != 0 {
				leaves = min(leaves, n)
			}
		}
		for s := range spare {
			if m.lots[i].whose&set(s) != 0 {
				spare[s] -= leaves
			}
		}
		cost += (m.left[i] - leaves) * m.lots[i].Price
	}
	return cost
}

// after returns what a market is after a rent gave a field minutes.
func (m market) after(rent, field, minutes int) market {
	m.left[rent] -= minutes
	m.needs[field] -= minutes
	return m
}

// costs tells whether there is a plan that costs so much.
func (m market) costs(baisa int) bool {
	_, lacks := m.lack()
	return !lacks && m.cost() == baisa
}

// plan returns the first of the cheapest plans for so many needs, if no fields lack minutes.
func (m market) plan(needs int) [][]int {
	plan := make([][]int, len(m.lots))
	for i := range plan {
		plan[i] = make([]int, needs)
	}
	cost := m.cost()
gives:
	for i, l := range m.lots {
		for _, f := range l.Fields {
			if m.needs == [api.MaxNeeds]int{} {
				break gives
			}
			// What is asked is if a cheapest plan gives the field at least n minutes of this rent.
			n := greatest(min(m.left[i], m.needs[f]), func(n int) bool { return m.after(i, f, n).costs(cost - n*l.Price) })
			plan[i][f] = n
			m, cost = m.after(i, f, n), cost-n*l.Price
		}
	}
	return plan
}
