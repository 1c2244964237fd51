package levels_test

import (
	"iter"
	"math"
	"slices"
	"testing"

	"tripwire/api"
	"tripwire/levels"
)

// both are the sides that there are.
var both = []api.Side{api.Buy, api.Sell}

func TestNew(t *testing.T) {
	for _, c := range []struct {
		side api.Side
		most int
		want api.Errno
	}{
		{api.Buy, 0, api.OK}, {api.Buy, 1, api.OK}, {api.Buy, 128, api.OK}, {api.Sell, 0, api.OK}, {api.Sell, 1, api.OK}, {api.Sell, 128, api.OK},
		{api.Buy, -1, wrong}, {api.Buy, 129, wrong}, {api.Sell, -1, wrong}, {api.Sell, 129, wrong},
		{api.Buy, math.MinInt, wrong}, {api.Sell, math.MaxInt, wrong},
		{0, 0, wrong}, {0, 1, wrong}, {3, 1, wrong}, {4, 128, wrong}, {255, 5, wrong}, {0, -1, wrong}, {3, 129, wrong},
	} {
		s, e := levels.New(c.side, c.most)
		if e != c.want || (s == nil) != (e != api.OK) {
			t.Errorf("New(%d, %d) is %v, %d; want %d", c.side, c.most, s, e, c.want)
		}
		if s != nil {
			expectPrices(t, s)
		}
	}
}

// What is asked of a side without prices: of one that has had none, and of one that has none any more.
func TestNoPrices(t *testing.T) {
	for _, side := range both {
		emptied := filled(t, side, 2, 7, 5)
		expectDrop(t, emptied, 5, api.OK)
		expectDrop(t, emptied, 7, api.OK)
		for _, s := range []*levels.Side{made(t, side, 2), made(t, side, 0), emptied} {
			expectPrices(t, s)
			expectAt(t, s, 1, 0, false)
			for _, price := range []int64{least, -1, 0, 1, 5, 7, api.MaxPrice, greatest} {
				expectFind(t, s, price, -1)
				expectBetter(t, s, price, 0)
				expectUpto(t, s, price)
				expectDrop(t, s, price, no)
			}
		}
	}
}

func TestNoRoom(t *testing.T) {
	for _, side := range both {
		s := made(t, side, 0)
		expectAdd(t, s, 1, 0, full)
		expectAdd(t, s, api.MaxPrice, 0, full)
		expectAdd(t, s, 0, 0, wrong)
		expectAdd(t, s, api.MaxPrice+1, 0, wrong)
		expectPrices(t, s)
	}
}

func TestPricesAtTheEdges(t *testing.T) {
	for _, side := range both {
		s := made(t, side, 4)
		for _, price := range []int64{least, -api.MaxPrice, -1, 0, api.MaxPrice + 1, 1 << 32, 1<<32 + 5, greatest} {
			expectAdd(t, s, price, 0, wrong)
			expectDrop(t, s, price, no)
			expectFind(t, s, price, -1)
		}
		expectPrices(t, s)
		expectAdd(t, s, 1, 0, api.OK)
		expectAdd(t, s, api.MaxPrice, 1, api.OK)
		expectAdd(t, s, api.MaxPrice-1, 2, api.OK)
		expectAdd(t, s, 2, 3, api.OK)
		want := []priced{{1, 0}, {2, 3}, {api.MaxPrice - 1, 2}, {api.MaxPrice, 1}}
		if side == api.Buy {
			slices.Reverse(want)
		}
		expectPrices(t, s, want...)
	}
}

// That a price may not be is named first, that it is there ahead of that there is no room.
func TestAPriceThatIsThere(t *testing.T) {
	for _, side := range both {
		s := filled(t, side, 2, 5)
		expectAdd(t, s, 5, 0, twice)
		expectPrices(t, s, priced{5, 0})
		expectAdd(t, s, 6, 1, api.OK)
		for range 2 {
			expectAdd(t, s, 5, 0, twice)
			expectAdd(t, s, 6, 0, twice)
			expectAdd(t, s, 7, 0, full)
			expectAdd(t, s, 4, 0, full)
			expectAdd(t, s, 0, 0, wrong)
			expectAdd(t, s, -5, 0, wrong)
			expectAdd(t, s, api.MaxPrice+1, 0, wrong)
		}
		if side == api.Buy {
			expectPrices(t, s, priced{6, 1}, priced{5, 0})
		} else {
			expectPrices(t, s, priced{5, 0}, priced{6, 1})
		}
	}
}

func TestFullAndFullNoMore(t *testing.T) {
	for _, side := range both {
		s := filled(t, side, 1, 8)
		expectAdd(t, s, 9, 0, full)
		expectAdd(t, s, 7, 0, full)
		expectPrices(t, s, priced{8, 0})
		expectDrop(t, s, 9, no)
		expectAdd(t, s, 9, 0, full)
		expectDrop(t, s, 8, api.OK)
		expectPrices(t, s)
		expectAdd(t, s, 9, 0, api.OK)
		expectAdd(t, s, 8, 0, full)
		expectPrices(t, s, priced{9, 0})
	}
}

// TestAllRoom fills the greatest side out of order, empties half of it, and fills it again.
func TestAllRoom(t *testing.T) {
	const most = 128
	for _, side := range both {
		s := made(t, side, most)
		price := func(i int) int64 { return int64(i*37%most) + 1 }
		for i := range most {
			expectAdd(t, s, price(i), i, api.OK)
		}
		expectAdd(t, s, most+1, 0, full)
		for i := most - 2; i >= 0; i -= 2 {
			expectDrop(t, s, price(i), api.OK)
		}
		for i := 0; i < most; i += 2 {
			expectAdd(t, s, price(i)+most, i, api.OK)
		}
		expectAdd(t, s, price(0), 0, full)
		var want []priced
		for i := range most {
			want = append(want, priced{price(i) + int64(1-i%2)*most, i})
		}
		slices.SortFunc(want, func(a, b priced) int {
			if side == api.Buy {
				a, b = b, a
			}
			return int(a.price - b.price)
		})
		expectPrices(t, s, want...)
	}
}

func TestPlaces(t *testing.T) {
	for _, side := range both {
		s := filled(t, side, 5, 20, 10, 30)
		first, last := int64(30), int64(10)
		if side == api.Sell {
			first, last = last, first
		}
		for _, i := range []int{math.MinInt, -2, -1, 3, 4, 5, math.MaxInt} {
			expectAt(t, s, i, 0, false)
		}
		expectAt(t, s, 0, first, true)
		expectAt(t, s, 1, 20, true)
		expectAt(t, s, 2, last, true)
		expectBest(t, s, first, true)
	}
}

func TestDropAnyOne(t *testing.T) {
	a, b, c, d := priced{40, 0}, priced{30, 1}, priced{20, 2}, priced{10, 3}
	for _, w := range []struct {
		dropped priced
		left    []priced
	}{
		{a, []priced{b, c, d}},
		{b, []priced{a, c, d}},
		{c, []priced{a, b, d}},
		{d, []priced{a, b, c}},
	} {
		for _, side := range both {
			s := filled(t, side, 4, a.price, b.price, c.price, d.price)
			all, left := []priced{a, b, c, d}, slices.Clone(w.left)
			if side == api.Sell {
				slices.Reverse(all)
				slices.Reverse(left)
			}
			expectPrices(t, s, all...)
			expectDrop(t, s, w.dropped.price, api.OK)
			expectFind(t, s, w.dropped.price, -1)
			expectDrop(t, s, w.dropped.price, no)
			expectPrices(t, s, left...)
			expectAdd(t, s, w.dropped.price, w.dropped.row, api.OK)
			expectPrices(t, s, all...)
		}
	}
}

func TestDropTheOnlyOne(t *testing.T) {
	for _, side := range both {
		s := filled(t, side, 3, 15)
		for _, price := range []int64{14, 16, 0, -15} {
			expectDrop(t, s, price, no)
		}
		expectPrices(t, s, priced{15, 0})
		expectDrop(t, s, 15, api.OK)
		expectPrices(t, s)
		expectAdd(t, s, 15, 0, api.OK)
		expectPrices(t, s, priced{15, 0})
	}
}

// A row goes with its price, whatever place that has; of those that are free the least one is given, whichever was freed last.
func TestTheLeastRowIsGivenAgain(t *testing.T) {
	for _, side := range both {
		s := filled(t, side, 7, 50, 20, 60, 10, 40, 30)
		for _, price := range []int64{40, 20, 30, 10} { // rows 4, 1, 5, 3
			expectDrop(t, s, price, api.OK)
		}
		expectAdd(t, s, 70, 1, api.OK)
		expectAdd(t, s, 5, 3, api.OK)
		expectDrop(t, s, 50, api.OK)
		expectAdd(t, s, 51, 0, api.OK)
		expectAdd(t, s, 20, 4, api.OK)
		expectAdd(t, s, 21, 5, api.OK)
		expectAdd(t, s, 22, 6, api.OK)
		expectAdd(t, s, 23, 0, full)
		want := []priced{{70, 1}, {60, 2}, {51, 0}, {22, 6}, {21, 5}, {20, 4}, {5, 3}}
		if side == api.Sell {
			slices.Reverse(want)
		}
		expectPrices(t, s, want...)
	}
}

// A price that comes again has the row that is free then, not the one that it had.
func TestAPriceThatComesAgain(t *testing.T) {
	s := filled(t, api.Sell, 3, 10, 20, 30)
	expectDrop(t, s, 30, api.OK)
	expectDrop(t, s, 10, api.OK)
	expectAdd(t, s, 30, 0, api.OK)
	expectAdd(t, s, 10, 2, api.OK)
	expectPrices(t, s, priced{10, 2}, priced{20, 1}, priced{30, 0})
}

func TestFind(t *testing.T) {
	for _, side := range both {
		s := filled(t, side, 4, 20, 40, 30)
		for _, c := range []struct {
			price int64
			want  int
		}{
			{20, 0}, {40, 1}, {30, 2}, {10, -1}, {19, -1}, {21, -1}, {35, -1}, {41, -1}, {50, -1},
			{0, -1}, {-20, -1}, {1, -1}, {api.MaxPrice, -1}, {api.MaxPrice + 1, -1}, {1<<32 + 20, -1}, {least, -1}, {greatest, -1},
		} {
			expectFind(t, s, c.price, c.want)
		}
	}
}

// Of each number: how many of 10, 20 and 30 are better, on a Buy side and on a Sell side.
func TestBetter(t *testing.T) {
	buy, sell := filled(t, api.Buy, 3, 20, 30, 10), filled(t, api.Sell, 3, 20, 30, 10)
	for _, c := range []struct {
		price     int64
		buy, sell int
	}{
		{10, 2, 0}, {20, 1, 1}, {30, 0, 2},
		{9, 3, 0}, {11, 2, 1}, {15, 2, 1}, {19, 2, 1}, {21, 1, 2}, {29, 1, 2}, {31, 0, 3},
		{0, 3, 0}, {-1, 3, 0}, {-20, 3, 0}, {least, 3, 0}, {least + 1, 3, 0},
		{api.MaxPrice, 0, 3}, {api.MaxPrice + 1, 0, 3}, {1 << 32, 0, 3}, {greatest - 1, 0, 3}, {greatest, 0, 3},
	} {
		expectBetter(t, buy, c.price, c.buy)
		expectBetter(t, sell, c.price, c.sell)
	}
}

// Of each limit: how many of 10, 20 and 30 are told, on a Buy side and on a Sell side.
func TestUpto(t *testing.T) {
	buy, sell := filled(t, api.Buy, 3, 20, 30, 10), filled(t, api.Sell, 3, 20, 30, 10)
	down, up := []priced{{30, 1}, {20, 0}, {10, 2}}, []priced{{10, 2}, {20, 0}, {30, 1}}
	for _, c := range []struct {
		limit     int64
		buy, sell int
	}{
		{0, 3, 3},
		{10, 3, 1}, {20, 2, 2}, {30, 1, 3},
		{9, 3, 0}, {11, 2, 1}, {15, 2, 1}, {25, 1, 2}, {31, 0, 3}, {1, 3, 0},
		{-1, 3, 0}, {-20, 3, 0}, {least, 3, 0}, {least + 1, 3, 0},
		{api.MaxPrice, 0, 3}, {api.MaxPrice + 1, 0, 3}, {1 << 32, 0, 3}, {greatest, 0, 3},
	} {
		expectUpto(t, buy, c.limit, down[:c.buy]...)
		expectUpto(t, sell, c.limit, up[:c.sell]...)
	}
}

func TestAWalkIsLeftEarly(t *testing.T) {
	for _, side := range both {
		s := filled(t, side, 5, 1, 2, 3, 4, 5)
		for _, limit := range []int64{0, 3} {
			walk, whole := s.Upto(limit), walked(s, limit)
			for stop := range whole {
				var got []priced
				for price, row := range walk {
					got = append(got, priced{price, row})
					if len(got) == stop+1 {
						break
					}
				}
				if !slices.Equal(got, whole[:stop+1]) {
					t.Errorf("side %d, limit %d, left behind %d: %v", side, limit, stop+1, got)
				}
			}
			expectUpto(t, s, limit, whole...)
		}
		if s.Len() != 5 {
			t.Error("Len is", s.Len())
		}
	}
}

func TestAWalkWithinAWalk(t *testing.T) {
	s := filled(t, api.Buy, 3, 2, 1, 3)
	walk := s.Upto(2)
	var got []int64
	for x := range walk {
		for y := range walk {
			got = append(got, 10*x+y)
		}
		for y := range s.Upto(0) {
			got = append(got, y)
		}
		got = append(got, int64(s.Better(x)))
	}
	if !slices.Equal(got, []int64{33, 32, 3, 2, 1, 0, 23, 22, 3, 2, 1, 1}) {
		t.Error(got)
	}
}

// A walk tells what the side has when it is ranged over, not when it was asked for (R10).
func TestAWalkTellsWhatIsThere(t *testing.T) {
	s := made(t, api.Sell, 3)
	walk := s.Upto(20)
	expectTold := func(want ...priced) {
		t.Helper()
		var got []priced
		for price, row := range walk {
			got = append(got, priced{price, row})
		}
		if !slices.Equal(got, want) {
			t.Errorf("the walk tells %v; want %v", got, want)
		}
	}
	expectTold()
	expectAdd(t, s, 20, 0, api.OK)
	expectAdd(t, s, 21, 1, api.OK)
	expectTold(priced{20, 0})
	expectAdd(t, s, 5, 2, api.OK)
	expectTold(priced{5, 2}, priced{20, 0})
	expectDrop(t, s, 20, api.OK)
	expectDrop(t, s, 21, api.OK)
	expectAdd(t, s, 7, 0, api.OK)
	expectTold(priced{5, 2}, priced{7, 0})
	expectDrop(t, s, 5, api.OK)
	expectDrop(t, s, 7, api.OK)
	expectTold()
}

// Two walks may be gone through in turn, each at its own place.
func TestTwoWalksInTurn(t *testing.T) {
	s := filled(t, api.Sell, 3, 1, 2, 3)
	all, stopAll := iter.Pull2(s.Upto(0))
	defer stopAll()
	some, stopSome := iter.Pull2(s.Upto(2))
	defer stopSome()
	for i := range 2 {
		if price, row, is := all(); price != int64(i+1) || row != i || !is {
			t.Error(price, row, is)
		}
		if price, row, is := some(); price != int64(i+1) || row != i || !is {
			t.Error(price, row, is)
		}
	}
	if _, _, is := some(); is {
		t.Error("one more")
	}
	if price, _, is := all(); price != 3 || !is {
		t.Error("one less")
	}
}
