package levels_test

import (
	"math"
	"slices"
	"testing"

	"tripwire/api"
	"tripwire/levels"
)

const (
	wrong = api.ErrArg
	full  = api.ErrLevelsFull
	no    = api.ErrLevelsNone
	twice = api.ErrLevelsTwice

	least, greatest = math.MinInt64, math.MaxInt64
)

// priced is one step of a walk: a price, and the row that it has.
type priced struct {
	price int64
	row   int
}

// made is a side that may be.
func made(t *testing.T, side api.Side, most int) *levels.Side {
	t.Helper()
	s, e := levels.New(side, most)
	if s == nil || e != api.OK {
		t.Fatalf("New(%d, %d) is %v, %d", side, most, s, e)
	}
	return s
}

// filled is a side to which prices were added that it has room for; the first has row 0, the next one row 1, and so on.
func filled(t *testing.T, side api.Side, most int, prices ...int64) *levels.Side {
	t.Helper()
	s := made(t, side, most)
	for row, price := range prices {
		expectAdd(t, s, price, row, api.OK)
	}
	return s
}

// walked is what Upto tells of a limit.
func walked(s *levels.Side, limit int64) []priced {
	var l []priced
	for price, row := range s.Upto(limit) {
		l = append(l, priced{price, row})
	}
	return l
}

func expectAdd(t *testing.T, s *levels.Side, price int64, wantRow int, wantErr api.Errno) {
	t.Helper()
	if row, e := s.Add(price); row != wantRow || e != wantErr {
		t.Errorf("Add(%d) is %d, %d; want %d, %d", price, row, e, wantRow, wantErr)
	}
}

func expectDrop(t *testing.T, s *levels.Side, price int64, want api.Errno) {
	t.Helper()
	if e := s.Drop(price); e != want {
		t.Errorf("Drop(%d) is %d; want %d", price, e, want)
	}
}

func expectFind(t *testing.T, s *levels.Side, price int64, want int) {
	t.Helper()
	if row := s.Find(price); row != want {
		t.Errorf("Find(%d) is %d; want %d", price, row, want)
	}
}

func expectBest(t *testing.T, s *levels.Side, want int64, wantIs bool) {
	t.Helper()
	if price, is := s.Best(); price != want || is != wantIs {
		t.Errorf("Best is %d, %t; want %d, %t", price, is, want, wantIs)
	}
}

func expectAt(t *testing.T, s *levels.Side, i int, want int64, wantIs bool) {
	t.Helper()
	if price, is := s.At(i); price != want || is != wantIs {
		t.Errorf("At(%d) is %d, %t; want %d, %t", i, price, is, want, wantIs)
	}
}

func expectBetter(t *testing.T, s *levels.Side, price int64, want int) {
	t.Helper()
	if n := s.Better(price); n != want {
		t.Errorf("Better(%d) is %d; want %d", price, n, want)
	}
}

func expectUpto(t *testing.T, s *levels.Side, limit int64, want ...priced) {
	t.Helper()
	if got := walked(s, limit); !slices.Equal(got, want) {
		t.Errorf("Upto(%d) tells %v; want %v", limit, got, want)
	}
}

// expectPrices asks all that can be asked of the prices that are there, which are to be just these, from the best one on.
func expectPrices(t *testing.T, s *levels.Side, want ...priced) {
	t.Helper()
	if n := s.Len(); n != len(want) {
		t.Errorf("Len is %d; want %d", n, len(want))
	}
	if len(want) == 0 {
		expectBest(t, s, 0, false)
	} else {
		expectBest(t, s, want[0].price, true)
	}
	for i, p := range want {
		expectAt(t, s, i, p.price, true)
		expectFind(t, s, p.price, p.row)
		expectBetter(t, s, p.price, i)
		expectUpto(t, s, p.price, want[:i+1]...)
	}
	expectAt(t, s, -1, 0, false)
	expectAt(t, s, len(want), 0, false)
	expectUpto(t, s, 0, want...)
}

// TestExampleBuy is the chapter's first example.
func TestExampleBuy(t *testing.T) {
	s := made(t, api.Buy, 3)
	expectAdd(t, s, 10, 0, api.OK)
	expectAdd(t, s, 12, 1, api.OK)
	expectAdd(t, s, 11, 2, api.OK)
	expectAdd(t, s, 9, 0, full)
	expectBest(t, s, 12, true)
	expectAt(t, s, 1, 11, true)
	expectUpto(t, s, 11, priced{12, 1}, priced{11, 2})
	expectBetter(t, s, 11, 1)
	expectBetter(t, s, 100, 0)
	expectBetter(t, s, -5, 3)
	expectDrop(t, s, 12, api.OK)
	expectAdd(t, s, 9, 1, api.OK)
	expectPrices(t, s, priced{11, 2}, priced{10, 0}, priced{9, 1})
}

// TestExampleSell is the chapter's second example.
func TestExampleSell(t *testing.T) {
	s := made(t, api.Sell, 2)
	expectAdd(t, s, 10, 0, api.OK)
	expectAdd(t, s, 12, 1, api.OK)
	expectBest(t, s, 10, true)
	expectUpto(t, s, 11, priced{10, 0})
	expectUpto(t, s, 0, priced{10, 0}, priced{12, 1})
	expectUpto(t, s, -3)
	expectAdd(t, s, 10, 0, twice)
	expectAdd(t, s, 0, 0, wrong)
	expectDrop(t, s, 11, no)
	expectPrices(t, s, priced{10, 0}, priced{12, 1})
}
