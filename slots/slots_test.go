package slots_test

import (
	"iter"
	"math"
	"runtime"
	"slices"
	"testing"
	"weak"

	"tripwire/api"
	"tripwire/slots"
)

func TestNew(t *testing.T) {
	for _, c := range []struct {
		rows, room int
		want       api.Errno
	}{
		{1, 0, api.OK}, {1, 1, api.OK}, {1, 65536, api.OK}, {65536, 0, api.OK}, {65536, 65536, api.OK}, {7, 5, api.OK},
		{0, 0, wrong}, {0, 1, wrong}, {-1, 1, wrong}, {65537, 1, wrong}, {math.MinInt, 1, wrong}, {math.MaxInt, 1, wrong},
		{1, -1, wrong}, {1, 65537, wrong}, {1, math.MinInt, wrong}, {1, math.MaxInt, wrong}, {0, -1, wrong}, {65537, 65537, wrong},
	} {
		a, e := slots.New[int](c.rows, c.room)
		if e != c.want || (a == nil) != (e != api.OK) {
			t.Errorf("New(%d, %d) is %v, %d; want %d", c.rows, c.room, a, e, c.want)
		}
		if a != nil {
			expectFree(t, a, c.room)
			expectRow(t, a, 0)
			expectRow(t, a, c.rows-1)
			expectNoRow(t, a, c.rows)
			expectNothing(t, a, 0)
		}
	}
}

func TestRowsAtTheEdges(t *testing.T) {
	type at = placed[int]
	for _, rows := range []int{1, 2, 65536} {
		a := made[int](t, rows, 4)
		for _, row := range []int{math.MinInt, -2, -1, rows, rows + 1, math.MaxInt} {
			expectNoRow(t, a, row)
		}
		expectFree(t, a, 4)
		expectPush(t, a, rows-1, 7, 0, api.OK)
		expectRow(t, a, rows-1, at{0, 7})
		if rows > 1 {
			expectRow(t, a, 0)
			expectPush(t, a, 0, 8, 1, api.OK)
			expectRow(t, a, 0, at{1, 8})
			expectRow(t, a, rows-1, at{0, 7})
		}
	}
}

func TestNumbersAtTheEdges(t *testing.T) {
	a := made[string](t, 2, 3)
	a.Push(0, "a")
	a.Push(1, "b")
	for _, n := range []int{math.MinInt, -2, -1, 2, 3, 4, 65536, math.MaxInt} {
		expectNothing(t, a, n)
	}
	a.Take(0)
	for _, n := range []int{-1, 0, 2, 3} {
		expectNothing(t, a, n)
	}
	expectFree(t, a, 2)
	expectRow(t, a, 0)
	expectRow(t, a, 1, placed[string]{1, "b"})
}

func TestNoRoom(t *testing.T) {
	a := made[int](t, 2, 0)
	expectPush(t, a, 0, 1, 0, full)
	expectPush(t, a, 1, 1, 0, full)
	expectPush(t, a, 2, 1, 0, wrong)
	expectNothing(t, a, 0)
	expectFree(t, a, 0)
	if n := a.Clear(0); n != 0 {
		t.Error("Clear(0) is", n)
	}
}

func TestFullAndFullNoMore(t *testing.T) {
	type at = placed[int]
	a := made[int](t, 2, 1)
	expectPush(t, a, 0, 5, 0, api.OK)
	expectPush(t, a, 0, 6, 0, full)
	expectPush(t, a, 1, 6, 0, full)
	// That there is no such row is named first.
	expectPush(t, a, 2, 6, 0, wrong)
	expectPush(t, a, -1, 6, 0, wrong)
	expectRow(t, a, 0, at{0, 5})
	expectRow(t, a, 1)
	expectFree(t, a, 0)

	a.Take(0)
	expectFree(t, a, 1)
	expectPush(t, a, 1, 7, 0, api.OK)
	expectPush(t, a, 1, 8, 0, full)
	expectRow(t, a, 0)
	expectRow(t, a, 1, at{0, 7})

	a.Clear(1)
	expectPush(t, a, 0, 9, 0, api.OK)
	expectRow(t, a, 0, at{0, 9})
}

// TestAllRoom fills the greatest arena, empties it from the midst, and fills it again.
func TestAllRoom(t *testing.T) {
	const room = 65536
	a := made[int](t, room, room)
	for i := range room {
		if n, e := a.Push(i, -i); n != i || e != api.OK {
			t.Fatal("Push", i, n, e)
		}
	}
	expectPush(t, a, 0, 1, 0, full)
	for i := range room {
		n := (i*40503 + 12345) % room
		if thing, is := a.Take(n); thing != -n || !is {
			t.Fatal("Take", n, thing, is)
		}
	}
	expectFree(t, a, room)
	for i := range room {
		if n, e := a.Push(room-1, i); n != i || e != api.OK {
			t.Fatal("Push", i, n, e)
		}
	}
	if got := walked(a, room-1); len(got) != room || got[room-1] != (placed[int]{room - 1, room - 1}) {
		t.Error(len(got))
	}
	if n := a.Clear(room - 1); n != room {
		t.Error("Clear is", n)
	}
	expectFree(t, a, room)
}

func TestTakeOutOfARow(t *testing.T) {
	type at = placed[string]
	a, b, c, d, x := at{0, "a"}, at{1, "b"}, at{2, "c"}, at{3, "d"}, "x"
	for _, w := range []struct {
		taken int
		left  []at
	}{
		{0, []at{b, c, d, {0, x}}},
		{1, []at{a, c, d, {1, x}}},
		{2, []at{a, b, d, {2, x}}},
		{3, []at{a, b, c, {3, x}}},
	} {
		r := made[string](t, 2, 4)
		for _, p := range []at{a, b, c, d} {
			expectPush(t, r, 1, p.thing, p.n, api.OK)
		}
		thing, is := r.Take(w.taken)
		expectThing(t, "Take", w.taken, thing, is, []at{a, b, c, d}[w.taken].thing)
		expectNothing(t, r, w.taken)
		expectRow(t, r, 1, w.left[:3]...)
		expectRow(t, r, 0)
		expectFree(t, r, 1)
		expectPush(t, r, 1, x, w.taken, api.OK)
		expectRow(t, r, 1, w.left...)
	}
}

func TestTakeTheOnlyOne(t *testing.T) {
	a := made[string](t, 1, 2)
	expectPush(t, a, 0, "a", 0, api.OK)
	thing, is := a.Take(0)
	expectThing(t, "Take", 0, thing, is, "a")
	expectRow(t, a, 0)
	if a.First(0) != -1 {
		t.Error("First(0) is", a.First(0))
	}
	expectPush(t, a, 0, "b", 0, api.OK)
	expectPush(t, a, 0, "c", 1, api.OK)
	expectRow(t, a, 0, placed[string]{0, "b"}, placed[string]{1, "c"})
}

func TestTheLeastNumberIsGivenAgain(t *testing.T) {
	type at = placed[int]
	a := made[int](t, 3, 8)
	for i := range 6 {
		expectPush(t, a, i%2, i, i, api.OK)
	}
	for _, n := range []int{4, 1, 5, 3} {
		a.Take(n)
	}
	expectPush(t, a, 2, 10, 1, api.OK)
	expectPush(t, a, 2, 11, 3, api.OK)
	a.Take(0)
	expectPush(t, a, 2, 12, 0, api.OK)
	expectPush(t, a, 1, 13, 4, api.OK)
	expectPush(t, a, 2, 14, 5, api.OK)
	expectPush(t, a, 0, 15, 6, api.OK)
	expectPush(t, a, 0, 16, 7, api.OK)
	expectPush(t, a, 0, 17, 0, full)
	expectRow(t, a, 0, at{2, 2}, at{6, 15}, at{7, 16})
	expectRow(t, a, 1, at{4, 13})
	expectRow(t, a, 2, at{1, 10}, at{3, 11}, at{0, 12}, at{5, 14})
}

func TestGetAndSet(t *testing.T) {
	type at = placed[string]
	a := made[string](t, 2, 3)
	a.Push(0, "a")
	a.Push(0, "b")
	a.Push(1, "")
	thing, is := a.Get(1)
	expectThing(t, "Get", 1, thing, is, "b")
	// A thing may be a zero one, and is there all the same.
	thing, is = a.Get(2)
	expectThing(t, "Get", 2, thing, is, "")
	if !a.Set(0, "x") || !a.Set(2, "y") {
		t.Error("Set is false")
	}
	expectRow(t, a, 0, at{0, "x"}, at{1, "b"})
	expectRow(t, a, 1, at{2, "y"})
	expectFree(t, a, 0)
	thing, is = a.Take(0)
	expectThing(t, "Take", 0, thing, is, "x")
	if a.Set(0, "z") {
		t.Error("Set(0) of a free number is true")
	}
	expectPush(t, a, 0, "c", 0, api.OK)
	expectRow(t, a, 0, at{1, "b"}, at{0, "c"})
}

func TestClear(t *testing.T) {
	type at = placed[int]
	a := made[int](t, 3, 6)
	for i := range 6 {
		a.Push(i%2, i)
	}
	for _, row := range []int{2, 3, -1} {
		if n := a.Clear(row); n != 0 {
			t.Errorf("Clear(%d) is %d", row, n)
		}
	}
	expectRow(t, a, 0, at{0, 0}, at{2, 2}, at{4, 4})
	if n := a.Clear(0); n != 3 {
		t.Error("Clear(0) is", n)
	}
	expectFree(t, a, 3)
	expectRow(t, a, 0)
	expectRow(t, a, 1, at{1, 1}, at{3, 3}, at{5, 5})
	for _, n := range []int{0, 2, 4} {
		expectNothing(t, a, n)
	}
	if n := a.Clear(0); n != 0 {
		t.Error("Clear(0) again is", n)
	}
	expectPush(t, a, 0, 7, 0, api.OK)
	expectPush(t, a, 2, 8, 2, api.OK)
	expectPush(t, a, 0, 9, 4, api.OK)
	expectRow(t, a, 0, at{0, 7}, at{4, 9})
	expectRow(t, a, 2, at{2, 8})
}

func TestAWalkIsLeftEarly(t *testing.T) {
	a := made[int](t, 1, 5)
	for i := range 5 {
		a.Push(0, i*i)
	}
	walk := a.All(0)
	for stop := range 5 {
		var got []int
		for n, thing := range walk {
			got = append(got, n, thing)
			if n == stop {
				break
			}
		}
		if len(got) != 2*(stop+1) || got[2*stop] != stop || got[2*stop+1] != stop*stop {
			t.Error(stop, got)
		}
	}
	expectFree(t, a, 0)
}

func TestAWalkWithinAWalk(t *testing.T) {
	a := made[int](t, 2, 3)
	a.Push(0, 5)
	a.Push(1, 6)
	a.Push(0, 7)
	walk := a.All(0)
	var got []int
	for _, x := range walk {
		for _, y := range walk {
			got = append(got, 10*x+y)
		}
		for _, y := range a.All(1) {
			got = append(got, y)
		}
	}
	if !slices.Equal(got, []int{55, 57, 6, 75, 77, 6}) {
		t.Error(got)
	}
}

// A walk tells what the row has when it is ranged over, not when it was asked for (R10).
func TestAWalkTellsWhatIsThere(t *testing.T) {
	type at = placed[string]
	a := made[string](t, 2, 4)
	walk := a.All(0)
	told := func() (l []at) {
		for n, thing := range walk {
			l = append(l, at{n, thing})
		}
		return l
	}
	if l := told(); len(l) != 0 {
		t.Error(l)
	}
	a.Push(0, "a")
	a.Push(0, "b")
	if l := told(); !slices.Equal(l, []at{{0, "a"}, {1, "b"}}) {
		t.Error(l)
	}
	a.Take(0)
	a.Set(1, "c")
	a.Push(0, "d")
	if l := told(); !slices.Equal(l, []at{{1, "c"}, {0, "d"}}) {
		t.Error(l)
	}
	a.Clear(0)
	if l := told(); len(l) != 0 {
		t.Error(l)
	}
}

// Two walks may be gone through in turn, each at its own place.
func TestTwoWalksInTurn(t *testing.T) {
	a := made[int](t, 2, 4)
	for i := range 4 {
		a.Push(i%2, i)
	}
	even, stopEven := iter.Pull2(a.All(0))
	defer stopEven()
	odd, stopOdd := iter.Pull2(a.All(1))
	defer stopOdd()
	for i := range 2 {
		if n, x, is := even(); n != 2*i || x != n || !is {
			t.Error(n, x, is)
		}
		if n, x, is := odd(); n != 2*i+1 || x != n || !is {
			t.Error(n, x, is)
		}
	}
	if _, _, is := even(); is {
		t.Error("one more")
	}
}

func TestThingsOfManyTypes(t *testing.T) {
	type pair struct {
		name string
		list [2]int
	}
	numbers, pairs, nothings, pointers := made[int](t, 2, 2), made[pair](t, 2, 2), made[struct{}](t, 2, 2), made[*int](t, 2, 2)
	one := 1
	expectPush(t, numbers, 0, 7, 0, api.OK)
	expectPush(t, pairs, 1, pair{"a", [2]int{1, 2}}, 0, api.OK)
	expectPush(t, pairs, 1, pair{}, 1, api.OK)
	expectPush(t, nothings, 0, struct{}{}, 0, api.OK)
	expectPush(t, pointers, 0, &one, 0, api.OK)
	expectRow(t, numbers, 0, placed[int]{0, 7})
	expectRow(t, pairs, 1, placed[pair]{0, pair{"a", [2]int{1, 2}}}, placed[pair]{1, pair{}})
	expectRow(t, nothings, 0, placed[struct{}]{0, struct{}{}})
	expectRow(t, pointers, 0, placed[*int]{0, &one})
	thing, is := pairs.Take(0)
	expectThing(t, "Take", 0, thing, is, pair{"a", [2]int{1, 2}})
	expectNothing(t, pairs, 0)
	expectNothing(t, nothings, 1)
	expectFree(t, numbers, 1)
	expectFree(t, nothings, 1)
	pointers.Clear(0)
	expectNothing(t, pointers, 0)
}

// Things need not be such as can be compared, nor such as are handed back changed.
func TestThingsAreHandedBackAsTheyCame(t *testing.T) {
	lists, calls := made[[]int](t, 1, 2), made[func() int](t, 1, 2)
	l := []int{1, 2}
	lists.Push(0, l)
	calls.Push(0, func() int { return 42 })
	got, is := lists.Get(0)
	if !is || !slices.Equal(got, l) {
		t.Error(got, is)
	}
	if call, is := calls.Take(0); !is || call() != 42 {
		t.Error(is)
	}
	if call, is := calls.Take(0); is || call != nil {
		t.Error(is)
	}
}

// What an arena no longer has, it keeps no memory of.
func TestWhatIsGoneIsForgotten(t *testing.T) {
	type big [1 << 10]int
	a := made[*big](t, 1, 4)
	laid := func() weak.Pointer[big] {
		b := new(big)
		a.Push(0, b)
		return weak.Make(b)
	}
	first, second, replaced := laid(), laid(), laid()
	a.Take(0)
	a.Set(2, nil)
	a.Take(1)
	kept := laid()
	runtime.GC()
	if first.Value() != nil || second.Value() != nil || replaced.Value() != nil {
		t.Error("kept:", first.Value() != nil, second.Value() != nil, replaced.Value() != nil)
	}
	if kept.Value() == nil {
		t.Error("a thing of the arena is lost")
	}
	a.Clear(0)
	runtime.GC()
	if kept.Value() != nil {
		t.Error("kept behind Clear")
	}
	runtime.KeepAlive(a)
}
