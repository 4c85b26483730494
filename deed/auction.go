package deed

import (
	"slices"

	"aflaj/api"
)

// checkBids returns the error of a turn that is sold by auction, or of bids for it.
func checkBids(t api.Turn, bids []api.Bid) api.Errno {
	if !within(t, cycle(api.MaxCycle)) {
		return api.ErrArg
	}
	if len(bids) > api.MaxBids {
		return api.ErrMany
	}
	for _, b := range bids {
		if !isPerson(b.Who) || !within(b.Turn, t) || !between(b.Baisa, 0, api.MaxMoney) {
			return api.ErrBids
		}
	}
	return api.OK
}

// arePrices tells whether prices are such for a turn.
func arePrices(t api.Turn, prices []api.Price) bool {
	if len(prices) > api.MaxHolds {
		return false
	}
	for _, p := range prices {
		if !between(p.Baisa, 0, api.MaxBids*api.MaxMoney) {
			return false
		}
	}
	return follow(prices, func(p api.Price) api.Turn { return p.Turn }, t)
}

// win returns the first list of bids that go together with the greatest sum, and this sum.
func win(bids []api.Bid) (won []int, sum int) {
	var try func(list []int, paid int)
	// A list is tried before those that go on from it, and these by their next index: the first one of a sum comes first.
	try = func(list []int, paid int) {
		if paid > sum {
			won, sum = slices.Clone(list), paid
		}
		next := 0
		if len(list) > 0 {
			next = list[len(list)-1] + 1
		}
		for i := next; i < len(bids); i++ {
			if !slices.ContainsFunc(list, func(j int) bool { return meet(bids[i].Turn, bids[j].Turn) }) {
				try(append(list, i), paid+bids[i].Baisa)
			}
		}
	}
	try(nil, 0)
	return won, sum
}

// meet tells whether a minute is in both of two turns.
func meet(one, other api.Turn) bool { return one.From < other.To && other.From < one.To }

// ends returns where the turns of bids, and the whole turn, begin or end, in ascending order, but for where it begins.
func ends(t api.Turn, bids []api.Bid) []int {
	all := []int{t.From, t.To}
	for _, b := range bids {
		all = append(all, b.Turn.From, b.Turn.To)
	}
	slices.Sort(all)
	return slices.Compact(all)[1:]
}

// ended returns the bids whose turns end at a minute or before it.
func ended(bids []api.Bid, minute int) []api.Bid {
	var all []api.Bid
	for _, b := range bids {
		if b.Turn.To <= minute {
			all = append(all, b)
		}
	}
	return all
}

// ending tells whether a turn begins where the turn of some price does, and ends where that of some price does.
func ending(prices []api.Price, t api.Turn) bool {
	return slices.ContainsFunc(prices, func(p api.Price) bool { return p.Turn.From == t.From }) &&
		slices.ContainsFunc(prices, func(p api.Price) bool { return p.Turn.To == t.To })
}

// cost returns what the minutes of a turn cost together, of those prices that are within it.
func cost(prices []api.Price, t api.Turn) int {
	sum := 0
	for _, p := range prices {
		if within(p.Turn, t) {
			sum += p.Baisa
		}
	}
	return sum
}
