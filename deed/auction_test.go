package deed_test

import (
	"slices"
	"testing"

	"aflaj/api"
	"aflaj/deed"
)

func bid(from, to, baisa int) api.Bid { return api.Bid{Who: 1, Turn: turn(from, to), Baisa: baisa} }

func bids(l ...api.Bid) []api.Bid { return l }

func price(from, to, baisa int) api.Price { return api.Price{Turn: turn(from, to), Baisa: baisa} }

func prices(l ...api.Price) []api.Price { return l }

func exampleBids() []api.Bid {
	return bids(bid(0, 60, 50), bid(40, 100, 45), bid(0, 40, 20), bid(60, 100, 10))
}

func wantAuction(t *testing.T, of api.Turn, l []api.Bid, sum int, won ...int) {
	t.Helper()
	if is, n, e := deed.Auction(of, l); e != api.OK || n != sum || !slices.Equal(is, won) {
		t.Errorf("Auction %v %v: %v %v %v, want %v %v", of, l, is, n, e, won, sum)
	}
}

// wantPrices checks prices, and that they prove their sum.
func wantPrices(t *testing.T, of api.Turn, l []api.Bid, want ...api.Price) {
	t.Helper()
	is, e := deed.Prices(of, l)
	if e != api.OK || !slices.Equal(is, want) {
		t.Errorf("Prices %v %v: %v %v, want %v", of, l, is, e, want)
	}
	_, sum, _ := deed.Auction(of, l)
	wantProves(t, of, l, is, sum, api.OK)
}

func wantProves(t *testing.T, of api.Turn, l []api.Bid, p []api.Price, sum int, e api.Errno) {
	t.Helper()
	if n, f := deed.Proves(of, l, p); n != sum || f != e {
		t.Errorf("Proves %v %v %v: %v %v, want %v %v", of, l, p, n, f, sum, e)
	}
}

// wantNoAuction checks that all functions of auctions have an error, and nothing beside it, also with prices that are none.
func wantNoAuction(t *testing.T, of api.Turn, l []api.Bid, e api.Errno) {
	t.Helper()
	won, sum, e1 := deed.Auction(of, l)
	p, e2 := deed.Prices(of, l)
	if e1 != e || e2 != e || len(won) != 0 || sum != 0 || len(p) != 0 {
		t.Errorf("%v %v: %v %v %v, %v %v, want %v", of, l, won, sum, e1, p, e2, e)
	}
	wantProves(t, of, l, prices(price(of.From, of.To, 12)), 0, e)
	wantProves(t, of, l, nil, 0, e)
	wantProves(t, of, l, make([]api.Price, 61), 0, e)
}

func TestAuctionExamples(t *testing.T) {
	wantAuction(t, turn(0, 100), exampleBids(), 65, 1, 2)
	wantPrices(t, turn(0, 100), exampleBids(), price(0, 40, 20), price(40, 60, 30), price(60, 100, 15))
}

func TestAuction(t *testing.T) {
	for _, x := range []struct {
		of  api.Turn
		l   []api.Bid
		sum int
		won []int
	}{
		{turn(0, 1), nil, 0, nil}, {turn(0, 23040), bids(), 0, nil}, {turn(23039, 23040), bids(bid(23039, 23040, 1000000000)), 1000000000, []int{0}}, {turn(0, 1), bids(bid(0, 1, 0)), 0, nil},
		// At 40 one ends and the next one begins; a minute later there is one that both want.
		{turn(0, 100), bids(bid(0, 40, 5), bid(40, 100, 5)), 10, []int{0, 1}}, {turn(0, 100), bids(bid(0, 41, 5), bid(40, 100, 5)), 5, []int{0}},
		{turn(0, 100), bids(bid(40, 100, 5), bid(0, 40, 5)), 10, []int{0, 1}}, {turn(0, 100), bids(bid(40, 100, 5), bid(0, 41, 6)), 6, []int{1}},
		{turn(0, 100), bids(bid(10, 11, 5), bid(10, 11, 7), bid(10, 11, 6)), 7, []int{1}}, {turn(0, 100), bids(bid(10, 50, 5), bid(20, 30, 7), bid(0, 100, 6)), 7, []int{1}},
		{turn(0, 100), bids(bid(0, 100, 10), bid(10, 11, 5), bid(90, 91, 6)), 11, []int{1, 2}},
		// Of equal sums the first list: the lesser index, or what ends.
		{turn(0, 100), bids(bid(0, 10, 5), bid(0, 10, 5)), 5, []int{0}}, {turn(0, 100), bids(bid(0, 100, 10), bid(0, 50, 5), bid(50, 100, 5)), 10, []int{0}},
		{turn(0, 100), bids(bid(0, 50, 5), bid(50, 100, 5), bid(0, 100, 10)), 10, []int{0, 1}}, {turn(0, 100), bids(bid(0, 50, 5), bid(0, 100, 10), bid(50, 100, 5)), 10, []int{0, 2}},
		{turn(0, 100), bids(bid(0, 10, 0), bid(10, 20, 5)), 5, []int{0, 1}}, {turn(0, 100), bids(bid(10, 20, 5), bid(0, 10, 0)), 5, []int{0}}, {turn(0, 100), bids(bid(0, 10, 0), bid(10, 20, 0)), 0, nil},
		{turn(0, 100), bids(bid(0, 10, 5), bid(20, 30, 0), bid(40, 50, 5)), 10, []int{0, 1, 2}}, {turn(0, 100), bids(bid(0, 10, 5), bid(40, 50, 5), bid(20, 30, 0)), 10, []int{0, 1}},
		{turn(0, 100), bids(bid(0, 10, 5), bid(20, 30, 4), bid(20, 50, 5), bid(20, 40, 5)), 10, []int{0, 2}},
		// The greatest one alone is not the best, nor is the one that ends first.
		{turn(0, 30), bids(bid(0, 10, 4), bid(5, 25, 7), bid(20, 30, 4)), 8, []int{0, 2}}, {turn(0, 30), bids(bid(0, 10, 4), bid(5, 25, 9), bid(20, 30, 4)), 9, []int{1}},
	} {
		wantAuction(t, x.of, x.l, x.sum, x.won...)
	}
	var all []api.Bid
	var indices []int
	for i := range 12 {
		all, indices = append(all, bid(12-i, 13-i, 1000000000)), append(indices, i)
	}
	wantAuction(t, turn(0, 23040), all, 12000000000, indices...)
	all[3].Who = 9999
	wantAuction(t, turn(1, 13), all, 12000000000, indices...)
	wantNoAuction(t, turn(1, 13), append(all, bid(1, 2, 3)), api.ErrMany)
	wantAuction(t, turn(0, 9), slices.Repeat(bids(bid(0, 1, 9)), 12), 9, 0)
}

func TestWrongAuctions(t *testing.T) {
	turns := []api.Turn{{}, turn(0, 0), turn(7, 7), turn(8, 7), turn(23040, 23040), turn(-1, 0), turn(-1, 23040), turn(0, 23041), turn(23040, 23041), turn(23040, 0)}
	for _, n := range strange {
		turns = append(turns, turn(n, 9), turn(0, n), turn(n, n))
	}
	for _, of := range turns {
		wantNoAuction(t, of, nil, api.ErrArg)
		wantNoAuction(t, of, make([]api.Bid, 13), api.ErrArg)
		wantNoAuction(t, of, bids(api.Bid{}), api.ErrArg)
	}
	of := turn(10, 20)
	wantNoAuction(t, of, make([]api.Bid, 13), api.ErrMany)
	wantNoAuction(t, of, slices.Repeat(bids(bid(10, 20, 5)), 13), api.ErrMany)
	wrongBids := bids(api.Bid{})
	change := func(numbers []int, set func(b *api.Bid, n int)) {
		for _, n := range numbers {
			b := bid(13, 16, 5)
			set(&b, n)
			wrongBids = append(wrongBids, b)
		}
	}
	change(wrong(1, 9999), func(b *api.Bid, n int) { b.Who = n })
	change(append(wrong(10, 15), 16), func(b *api.Bid, n int) { b.Turn.From = n })
	change(append(wrong(14, 20), 13), func(b *api.Bid, n int) { b.Turn.To = n })
	change(wrong(0, 1000000000), func(b *api.Bid, n int) { b.Baisa = n })
	for _, b := range wrongBids {
		wantNoAuction(t, of, bids(b), api.ErrBids)
		wantNoAuction(t, of, bids(bid(10, 20, 5), b), api.ErrBids)
		wantNoAuction(t, of, bids(b, bid(10, 20, 5)), api.ErrBids)
		wantNoAuction(t, of, slices.Repeat(bids(b), 12), api.ErrBids)
		wantNoAuction(t, of, slices.Repeat(bids(b), 13), api.ErrMany)
		wantNoAuction(t, turn(20, 10), bids(b), api.ErrArg)
	}
}

func TestPrices(t *testing.T) {
	for _, x := range []struct {
		of   api.Turn
		l    []api.Bid
		want []api.Price
	}{
		// As long as may be: nothing ends in between.
		{turn(5, 90), nil, prices(price(5, 90, 0))}, {turn(5, 90), bids(bid(5, 90, 7)), prices(price(5, 90, 7))},
		{turn(5, 90), bids(bid(5, 20, 7)), prices(price(5, 20, 7), price(20, 90, 0))}, {turn(5, 90), bids(bid(20, 90, 7)), prices(price(5, 20, 0), price(20, 90, 7))},
		{turn(5, 90), bids(bid(20, 30, 7)), prices(price(5, 20, 0), price(20, 30, 7), price(30, 90, 0))}, {turn(5, 90), bids(bid(20, 30, 0)), prices(price(5, 20, 0), price(20, 30, 0), price(30, 90, 0))},
		{turn(5, 90), bids(bid(20, 30, 7), bid(30, 40, 8)), prices(price(5, 20, 0), price(20, 30, 7), price(30, 40, 8), price(40, 90, 0))},
		{turn(5, 90), bids(bid(30, 40, 8), bid(20, 35, 7), bid(20, 35, 6)), prices(price(5, 20, 0), price(20, 30, 0), price(30, 35, 7), price(35, 40, 1), price(40, 90, 0))},
		{turn(0, 30), bids(bid(0, 10, 4), bid(5, 25, 7), bid(20, 30, 4)), prices(price(0, 5, 0), price(5, 10, 4), price(10, 20, 0), price(20, 25, 3), price(25, 30, 1))},
		{turn(0, 23040), bids(bid(0, 1, 1000000000), bid(23039, 23040, 1000000000)), prices(price(0, 1, 1000000000), price(1, 23039, 0), price(23039, 23040, 1000000000))},
	} {
		wantPrices(t, x.of, x.l, x.want...)
	}
	// No two of 24 ends are the same.
	var all []api.Bid
	for i := range 12 {
		all = append(all, bid(i+1, 25-i, 1000000000-i))
	}
	is, e := deed.Prices(turn(0, 50), all)
	if e != api.OK || len(is) != 25 {
		t.Error(is, e)
	}
}

func TestProves(t *testing.T) {
	of, l := turn(0, 100), exampleBids()
	for i, x := range []struct {
		p   []api.Price
		sum int
		e   api.Errno
	}{
		{prices(price(0, 40, 20), price(40, 60, 30), price(60, 100, 15)), 65, api.OK}, {prices(price(0, 40, 50), price(40, 60, 0), price(60, 100, 45)), 95, api.OK},
		// A bid more than what its minutes cost: of each bid.
		{prices(price(0, 40, 20), price(40, 60, 29), price(60, 100, 16)), 0, api.ErrPrices}, {prices(price(0, 40, 20), price(40, 60, 30), price(60, 100, 14)), 0, api.ErrPrices},
		{prices(price(0, 40, 19), price(40, 60, 35), price(60, 100, 15)), 0, api.ErrPrices}, {prices(price(0, 40, 20), price(40, 60, 40), price(60, 100, 9)), 0, api.ErrPrices},
		// Turns may be shorter than need be, but not longer.
		{prices(price(0, 1, 20), price(1, 40, 0), price(40, 50, 10), price(50, 60, 20), price(60, 100, 15)), 65, api.OK},
		{prices(price(0, 60, 50), price(60, 100, 45)), 0, api.ErrPrices}, {prices(price(0, 40, 50), price(40, 100, 45)), 0, api.ErrPrices}, {prices(price(0, 100, 500)), 0, api.ErrPrices},
		{prices(price(0, 41, 20), price(41, 60, 30), price(60, 100, 45)), 0, api.ErrPrices}, {prices(price(0, 40, 90), price(40, 61, 90), price(61, 100, 90)), 0, api.ErrPrices},
		{nil, 0, api.ErrPrices}, {prices(), 0, api.ErrPrices},
		// They follow one another from one end to the other.
		{prices(price(1, 40, 20), price(40, 60, 30), price(60, 100, 15)), 0, api.ErrPrices}, {prices(price(-1, 40, 20), price(40, 60, 30), price(60, 100, 15)), 0, api.ErrPrices},
		{prices(price(0, 40, 20), price(40, 60, 30), price(60, 99, 15)), 0, api.ErrPrices}, {prices(price(0, 40, 20), price(40, 60, 30), price(60, 101, 15)), 0, api.ErrPrices},
		{prices(price(0, 40, 20), price(40, 60, 30), price(60, 100, 15), price(100, 101, 0)), 0, api.ErrPrices}, {prices(price(0, 40, 20), price(40, 60, 30), price(60, 100, 15), price(100, 100, 0)), 0, api.ErrPrices},
		{prices(price(0, 40, 20), price(40, 40, 9), price(40, 60, 30), price(60, 100, 15)), 0, api.ErrPrices}, {prices(price(0, 40, 20), price(40, 39, 0), price(39, 60, 30), price(60, 100, 15)), 0, api.ErrPrices},
		{prices(price(0, 40, 20), price(40, 59, 30), price(60, 100, 45)), 0, api.ErrPrices}, {prices(price(0, 40, 50), price(39, 60, 30), price(60, 100, 45)), 0, api.ErrPrices},
		{prices(price(40, 60, 30), price(0, 40, 20), price(60, 100, 15)), 0, api.ErrPrices}, {prices(price(0, 40, 20), price(40, 60, 30)), 0, api.ErrPrices}, {prices(price(40, 60, 50), price(60, 100, 50)), 0, api.ErrPrices},
		{prices(price(0, 40, 12000000000), price(40, 60, 12000000000), price(60, 100, 12000000000)), 36000000000, api.OK},
	} {
		if sum, e := deed.Proves(of, l, x.p); sum != x.sum || e != x.e {
			t.Error(i, x.p, sum, e)
		}
	}
	wantProves(t, turn(5, 9), nil, prices(price(5, 9, 0)), 0, api.OK)
	wantProves(t, turn(5, 9), bids(bid(6, 7, 0)), prices(price(5, 6, 1), price(6, 7, 0), price(7, 9, 2)), 3, api.OK)
	wantProves(t, turn(5, 9), bids(bid(6, 7, 0)), prices(price(5, 6, 1), price(6, 9, 2)), 0, api.ErrPrices)
	wantProves(t, turn(5, 9), bids(bid(6, 7, 0)), prices(price(5, 7, 1), price(7, 9, 2)), 0, api.ErrPrices)
}

func TestStrangePrices(t *testing.T) {
	of, l := turn(0, 100), exampleBids()
	want := func(numbers []int, set func(p *api.Price, n int)) {
		t.Helper()
		for i := range 3 {
			for _, n := range numbers {
				p := prices(price(0, 40, 50), price(40, 60, 50), price(60, 100, 50))
				set(&p[i], n)
				wantProves(t, of, l, p, 0, api.ErrPrices)
			}
		}
	}
	want(wrong(0, 12000000000), func(p *api.Price, n int) { p.Baisa = n })
	want(strange[:], func(p *api.Price, n int) { p.Turn.From = n })
	want(strange[:], func(p *api.Price, n int) { p.Turn.To = n })
	want(strange[:], func(p *api.Price, n int) { p.Turn = turn(n, n) })
	wantProves(t, of, nil, prices(price(0, 100, 12000000000)), 12000000000, api.OK)
}

func TestPricesAreAtMostSixty(t *testing.T) {
	var p []api.Price
	for i := range 61 {
		p = append(p, price(i, i+1, 12000000000))
	}
	wantProves(t, turn(0, 60), nil, p[:60], 720000000000, api.OK)
	wantProves(t, turn(0, 61), nil, p, 0, api.ErrPrices)
	wantProves(t, turn(0, 60), bids(bid(0, 60, 1000000000)), p[:60], 720000000000, api.OK)
}
