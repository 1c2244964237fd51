package slots_test

import (
	"slices"
	"testing"

	"tripwire/api"
	"tripwire/slots"
)

// model is an arena by the chapter's words alone: rows are lists, and the least free number is looked for.
type model struct {
	room int
	rows [][]placed[int]
}

func (m *model) find(n int) (row, at int) {
	for row, l := range m.rows {
		for at, p := range l {
			if p.n == n {
				return row, at
			}
		}
	}
	return -1, -1
}

func (m *model) push(row, thing int) (int, api.Errno) {
	if row < 0 || row >= len(m.rows) {
		return 0, wrong
	}
	for n := range m.room {
		if r, _ := m.find(n); r == -1 {
			m.rows[row] = append(m.rows[row], placed[int]{n, thing})
			return n, api.OK
		}
	}
	return 0, full
}

func (m *model) get(n int) (int, bool) {
	row, at := m.find(n)
	if row == -1 {
		return 0, false
	}
	return m.rows[row][at].thing, true
}

func (m *model) set(n, thing int) bool {
	row, at := m.find(n)
	if row == -1 {
		return false
	}
	m.rows[row][at].thing = thing
	return true
}

func (m *model) take(n int) (int, bool) {
	thing, is := m.get(n)
	if is {
		row, at := m.find(n)
		m.rows[row] = slices.Delete(m.rows[row], at, at+1)
	}
	return thing, is
}

func (m *model) clear(row int) int {
	if row < 0 || row >= len(m.rows) {
		return 0
	}
	count := len(m.rows[row])
	m.rows[row] = nil
	return count
}

// pair is an arena and the model to which it is held.
type pair struct {
	a *slots.Arena[int]
	m *model
}

func paired(t *testing.T, rows, room int) pair {
	t.Helper()
	return pair{made[int](t, rows, room), &model{room, make([][]placed[int], rows)}}
}

// expectSame asks the arena all that can be asked.
func (p pair) expectSame(t *testing.T) {
	t.Helper()
	in := 0
	for row, want := range p.m.rows {
		expectRow(t, p.a, row, want...)
		in += p.a.Len(row)
		if len(want) == 0 && p.a.First(row) != -1 {
			t.Errorf("First(%d) is %d", row, p.a.First(row))
		}
	}
	if in+p.a.Free() != p.m.room {
		t.Errorf("%d things and %d free numbers; room is %d", in, p.a.Free(), p.m.room)
	}
	for n := -1; n <= p.m.room; n++ {
		row, _ := p.m.find(n)
		wantThing, wantIs := p.m.get(n)
		if thing, is := p.a.Get(n); thing != wantThing || is != wantIs || p.a.Row(n) != row {
			t.Errorf("Get(%d) is %d, %t, Row %d; want %d, %t, %d", n, thing, is, p.a.Row(n), wantThing, wantIs, row)
		}
		if row == -1 && p.a.Next(n) != -1 {
			t.Errorf("Next(%d) is %d", n, p.a.Next(n))
		}
	}
}

func (p pair) push(t *testing.T, row, thing int) {
	t.Helper()
	n, e := p.m.push(row, thing)
	expectPush(t, p.a, row, thing, n, e)
}

func (p pair) set(t *testing.T, n, thing int) {
	t.Helper()
	if got, want := p.a.Set(n, thing), p.m.set(n, thing); got != want {
		t.Errorf("Set(%d, %d) is %t; want %t", n, thing, got, want)
	}
}

func (p pair) take(t *testing.T, n int) {
	t.Helper()
	want, wantIs := p.m.take(n)
	if got, is := p.a.Take(n); got != want || is != wantIs {
		t.Errorf("Take(%d) is %d, %t; want %d, %t", n, got, is, want, wantIs)
	}
}

func (p pair) clear(t *testing.T, row int) {
	t.Helper()
	if got, want := p.a.Clear(row), p.m.clear(row); got != want {
		t.Errorf("Clear(%d) is %d; want %d", row, got, want)
	}
}

// TestAllShortScripts does whatever can be done to two rows with room for three, in every order, six calls long.
func TestAllShortScripts(t *testing.T) {
	const calls, kinds = 6, 7
	scripts := 1
	for range calls {
		scripts *= kinds
	}
	for script := range scripts {
		p := paired(t, 2, 3)
		for at, rest := 0, script; at < calls; at, rest = at+1, rest/kinds {
			switch k := rest % kinds; k {
			case 0, 1:
				p.push(t, k, at+1)
			case 2, 3, 4:
				p.take(t, k-2)
			default:
				p.clear(t, k-5)
			}
		}
		p.expectSame(t)
		if t.Failed() {
			t.Fatal("script", script)
		}
	}
}

// draw answers numbers that look drawn, and are the same each time.
func draw(from uint64) func(below int) int {
	return func(below int) int {
		from += 0x9e3779b97f4a7c15
		z := from
		z = (z ^ z>>30) * 0xbf58476d1ce4e5b9
		z = (z ^ z>>27) * 0x94d049bb133111eb
		return int((z ^ z>>31) % uint64(below))
	}
}

// anyCall does one call: the rows and numbers are within, just outside, or free.
func (p pair) anyCall(t *testing.T, drawn func(int) int, pushes int) {
	t.Helper()
	row, n, thing := drawn(len(p.m.rows)+2)-1, drawn(p.m.room+2)-1, drawn(1000)
	switch k := drawn(20 + pushes); {
	case k < 8:
		p.take(t, n)
	case k < 11:
		p.set(t, n, thing)
	case k < 12:
		p.clear(t, row)
	default:
		p.push(t, row, thing)
	}
}

func TestDrawnCalls(t *testing.T) {
	for seed, shape := range [][3]int{{1, 1, 0}, {1, 5, 0}, {2, 0, 0}, {3, 9, 0}, {3, 9, 20}, {7, 40, 5}, {40, 40, 30}, {2, 70, 60}} {
		p, drawn := paired(t, shape[0], shape[1]), draw(uint64(seed))
		for step := range 1500 {
			p.anyCall(t, drawn, shape[2])
			p.expectSame(t)
			if t.Failed() {
				t.Fatal("shape", shape, "step", step)
			}
		}
	}
}

// TestSideBySide drives arenas in turn: what is done to one is not seen in another, of the same type or of another one.
func TestSideBySide(t *testing.T) {
	a, b, drawn := paired(t, 3, 9), paired(t, 3, 9), draw(99)
	texts := made[string](t, 3, 9)
	texts.Push(1, "x")
	texts.Push(1, "y")
	for range 500 {
		a.anyCall(t, drawn, 10)
		b.expectSame(t)
		b.anyCall(t, drawn, 10)
		a.expectSame(t)
		expectRow(t, texts, 1, placed[string]{0, "x"}, placed[string]{1, "y"})
		expectFree(t, texts, 7)
	}
}

// No number is told twice by the rows together.
func TestNoNumberHasTwoThings(t *testing.T) {
	p, drawn := paired(t, 4, 12), draw(7)
	for range 2000 {
		p.anyCall(t, drawn, 15)
		var seen [12]int
		for row := range 4 {
			for n := range p.a.All(row) {
				seen[n]++
			}
		}
		for n, times := range seen {
			_, is := p.a.Get(n)
			if times > 1 || (times == 1) != is {
				t.Fatalf("%d is told %d times; Get says %t", n, times, is)
			}
		}
	}
}
