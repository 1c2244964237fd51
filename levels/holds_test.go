package levels_test

import (
	"testing"

	"tripwire/api"
	"tripwire/levels"
)

// model is a side by the chapter's words alone: a list in no order, of which all is counted anew.
type model struct {
	side  api.Side
	most  int
	there []priced
}

// better says if one price is better than another: the greater one of a Buy side, the lesser one of a Sell side.
func (m *model) better(one, other int64) bool {
	return m.side == api.Buy && one > other || m.side == api.Sell && one < other
}

// find is where a price stands in the list; -1: nowhere.
func (m *model) find(price int64) int {
	for i, p := range m.there {
		if p.price == price {
			return i
		}
	}
	return -1
}

func (m *model) hasRow(row int) bool {
	for _, p := range m.there {
		if p.row == row {
			return true
		}
	}
	return false
}

func (m *model) add(price int64) (int, api.Errno) {
	switch {
	case price < 1 || price > 1000000000:
		return 0, wrong
	case m.find(price) != -1:
		return 0, twice
	case len(m.there) == m.most:
		return 0, full
	}
	row := 0
	for m.hasRow(row) {
		row++
	}
	m.there = append(m.there, priced{price, row})
	return row, api.OK
}

func (m *model) drop(price int64) api.Errno {
	i := m.find(price)
	if i == -1 {
		return no
	}
	last := len(m.there) - 1
	m.there[i] = m.there[last]
	m.there = m.there[:last]
	return api.OK
}

// count is how many prices are better than one.
func (m *model) count(price int64) int {
	n := 0
	for _, p := range m.there {
		if m.better(p.price, price) {
			n++
		}
	}
	return n
}

// upto are the prices that are not worse than a limit: at each place the one that has just so many better ones.
func (m *model) upto(limit int64) []priced {
	var l []priced
	for i := range m.there {
		for _, p := range m.there {
			if m.count(p.price) == i && (limit == 0 || !m.better(limit, p.price)) {
				l = append(l, p)
			}
		}
	}
	return l
}

// pair is a side and the model to which it is held.
type pair struct {
	s *levels.Side
	m *model
}

func paired(t *testing.T, side api.Side, most int) pair {
	t.Helper()
	return pair{made(t, side, most), &model{side: side, most: most}}
}

func (p pair) add(t *testing.T, price int64) {
	t.Helper()
	row, e := p.m.add(price)
	expectAdd(t, p.s, price, row, e)
}

func (p pair) drop(t *testing.T, price int64) {
	t.Helper()
	expectDrop(t, p.s, price, p.m.drop(price))
}

// expectSame asks a side all that can be asked of its prices, and of other numbers.
func (p pair) expectSame(t *testing.T, others ...int64) {
	t.Helper()
	expectPrices(t, p.s, p.m.upto(0)...)
	for _, price := range others {
		row := -1
		if i := p.m.find(price); i != -1 {
			row = p.m.there[i].row
		}
		expectFind(t, p.s, price, row)
		expectBetter(t, p.s, price, p.m.count(price))
		expectUpto(t, p.s, price, p.m.upto(price)...)
	}
}

// expectFit holds what a side tells against what it tells, without a model.
func expectFit(t *testing.T, s *levels.Side, side api.Side, most int) {
	t.Helper()
	l := walked(s, 0)
	if len(l) != s.Len() || len(l) > most {
		t.Errorf("%d prices are told, Len is %d, most %d", len(l), s.Len(), most)
	}
	rows := make([]int, most)
	for i, p := range l {
		rows[p.row]++
		if i > 0 && !(side == api.Buy && l[i-1].price > p.price || side == api.Sell && l[i-1].price < p.price) {
			t.Errorf("%d stands behind %d", p.price, l[i-1].price)
		}
		price, is := s.At(i)
		if price != p.price || !is || s.Better(price) != i || s.Find(price) != p.row || len(walked(s, price)) != i+1 {
			t.Errorf("At(%d) is %d, Better %d, Find %d, Upto of %d; the walk tells %v", i, price, s.Better(price), s.Find(price), len(walked(s, price)), p)
		}
		if best, is := s.Best(); i == 0 && (best != p.price || !is) {
			t.Errorf("Best is %d, %t; the walk begins with %d", best, is, p.price)
		}
	}
	for row, times := range rows {
		if times > 1 {
			t.Errorf("row %d is that of %d prices", row, times)
		}
	}
}

// TestAllShortScripts adds and drops four prices in every order, five calls long, with room for one, two and three.
func TestAllShortScripts(t *testing.T) {
	const calls, prices = 5, 4
	scripts := 1
	for range calls {
		scripts *= 2 * prices
	}
	for script := range scripts {
		for _, side := range both {
			for most := 1; most <= 3; most++ {
				p := paired(t, side, most)
				for at, rest := 0, script; at < calls; at, rest = at+1, rest/(2*prices) {
					if price := int64(rest%prices) + 1; rest/prices%2 == 0 {
						p.add(t, price)
					} else {
						p.drop(t, price)
					}
				}
				p.expectSame(t, 1, 2, 3, 4)
				if t.Failed() {
					t.Fatal("script", script, "side", side, "most", most)
				}
			}
		}
	}
}

// draw answers numbers that look drawn, and are the same each time.
func draw(from uint64) func(below int) int {
	return func(below int) int {
		from += 0x9e3779b97f4a7c15
		z := from
		z = (z ^ z>>30) * 0xbf58476d1ce4e5b9
		z = (z ^ z>>27) * 0x94d049bb133111eb
		return int((z ^ z>>31) % uint64(below))
	}
}

// anyNumber is a price among the first few, one among all that may be, or a number that is none.
func anyNumber(drawn func(int) int, few int) int64 {
	switch k := drawn(20); {
	case k < 16:
		return int64(drawn(few)) + 1
	case k < 18:
		return int64(drawn(api.MaxPrice)) + 1
	}
	edges := []int64{least, -1, 0, 1, api.MaxPrice, api.MaxPrice + 1, greatest}
	return edges[drawn(len(edges))]
}

func (p pair) anyCall(t *testing.T, drawn func(int) int, few, adds int) {
	t.Helper()
	if price := anyNumber(drawn, few); drawn(10) < adds {
		p.add(t, price)
	} else {
		p.drop(t, price)
	}
}

func TestDrawnCalls(t *testing.T) {
	for seed, shape := range []struct{ most, few, adds int }{{0, 3, 5}, {1, 3, 5}, {4, 6, 5}, {9, 12, 6}, {20, 40, 7}, {40, 60, 8}, {128, 150, 9}} {
		for _, side := range both {
			p, drawn := paired(t, side, shape.most), draw(uint64(10*seed)+uint64(side))
			for step := range 500 {
				p.anyCall(t, drawn, shape.few, shape.adds)
				expectFit(t, p.s, side, shape.most)
				if shape.most < 20 || step%50 == 0 {
					p.expectSame(t, anyNumber(drawn, shape.few), anyNumber(drawn, shape.few), least, -1, 0, greatest)
				}
				if t.Failed() {
					t.Fatal("shape", shape, "side", side, "step", step)
				}
			}
		}
	}
}

// A row is one price's as long as that is there: whatever else comes and goes, Find tells the row that Add gave.
func TestARowIsKept(t *testing.T) {
	for _, side := range both {
		s, drawn := made(t, side, 12), draw(uint64(side))
		given := map[int64]int{}
		for range 3000 {
			price := int64(drawn(25)) + 1
			if row, e := s.Add(price); e == api.OK {
				given[price] = row
			} else if drawn(2) == 0 && s.Drop(price) == api.OK {
				delete(given, price)
			}
			for price, row := range given {
				expectFind(t, s, price, row)
			}
			if s.Len() != len(given) {
				t.Fatalf("Len is %d; %d prices are there", s.Len(), len(given))
			}
		}
	}
}

// TestSideBySide drives sides in turn, two of a kind and two of the other: what is done to one is not seen in another.
func TestSideBySide(t *testing.T) {
	drawn := draw(99)
	var sides []pair
	for _, side := range []api.Side{api.Buy, api.Buy, api.Sell, api.Sell} {
		sides = append(sides, paired(t, side, 6))
	}
	for step := range 1000 {
		sides[step%len(sides)].anyCall(t, drawn, 9, 6)
		for _, p := range sides {
			p.expectSame(t, 0, 5)
		}
		if t.Failed() {
			t.Fatal("step", step)
		}
	}
}

// What is refused leaves all as it was (R8).
func TestRefusedIsNotDone(t *testing.T) {
	for _, side := range both {
		p := paired(t, side, 3)
		for _, price := range []int64{30, 10, 20} {
			p.add(t, price)
		}
		for _, price := range []int64{least, -10, 0, 10, 20, 30, 15, 1, api.MaxPrice, api.MaxPrice + 1, greatest} {
			if row, e := p.s.Add(price); row != 0 || e == api.OK {
				t.Errorf("Add(%d) is %d, %d", price, row, e)
			}
			if price%10 != 0 || price < 1 || price > 30 {
				expectDrop(t, p.s, price, no)
			}
			p.expectSame(t, price)
		}
		p.drop(t, 10)
		p.add(t, 40)
		p.expectSame(t, 10, 40)
	}
}
