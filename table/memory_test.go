package table_test

import (
	"reflect"
	"testing"

	"tripwire/api"
	"tripwire/table"
)

// expectKept tells whether what was handed in is still what it was, and what lies behind its lists, too: was is a copy of it, as copied makes it.
func expectKept[T any](t *testing.T, is, was T) {
	t.Helper()
	if !reflect.DeepEqual(is, was) {
		t.Errorf("%s was changed; it was %s", short(is), short(was))
	}
	lists(elem(&is), func(v reflect.Value) {
		if v.Cap() == v.Len() {
			return
		}
		if !reflect.DeepEqual(v.Slice(0, v.Len()+1).Index(v.Len()).Interface(), behind(v.Type().Elem()).Interface()) {
			t.Errorf("what lies behind a list of %s was changed", short(is))
		}
	})
}

// expectApart tells whether no two lists of these things, to the ends of their rooms, share any memory.
func expectApart(t *testing.T, things ...any) {
	t.Helper()
	type room struct{ from, to uintptr }
	var all []room
	for _, x := range things {
		lists(elem(x), func(v reflect.Value) {
			if v.Cap() == 0 {
				return
			}
			mine := room{v.Pointer(), v.Pointer() + uintptr(v.Cap())*v.Type().Elem().Size()}
			for _, other := range all {
				if mine.from < other.to && other.from < mine.to {
					t.Errorf("two lists share memory: one is %s", short(v.Interface()))
				}
			}
			all = append(all, mine)
		})
	}
}

// spoil writes noughts into all lists of a thing, to the ends of their rooms.
func spoil(x any) {
	var all []reflect.Value
	lists(elem(x), func(v reflect.Value) { all = append(all, v.Slice(0, v.Cap())) })
	for _, v := range all {
		for k := range v.Len() {
			v.Index(k).SetZero()
		}
	}
}

// ofEach are tables that are taken, and some that are refused, by each of the errors.
func ofEach() []api.Table {
	all := append(several(), fullest(), longest(4096), longest(4097), longest(5000), asking(heap(65)), api.Table{})
	x := slow()
	for i, w := range wrongs(x) {
		all = append(all, made(x, i, w))
	}
	for _, turn := range misshapes() {
		all = append(all, change(x, turn))
	}
	for k := range 100 {
		all = append(all, slip(drawnTable(uint64(6000000+k)), draw(uint64(k))))
	}
	return all
}

// What is handed in is as it was behind each call, whether it is taken or refused; what lies behind its lists is neither read nor changed.
func TestWhatIsHandedInStays(t *testing.T) {
	said := map[api.Errno]int{}
	for _, x := range ofEach() {
		is, was := copied(x), copied(x)
		no := table.Check(is)
		expectKept(t, is, was)
		most, no2 := table.Bound(is)
		expectKept(t, is, was)
		b, no3 := table.Encode(is)
		expectKept(t, is, was)
		s := span(-1, len(is.Code)+1)
		fields, regs := table.Reads(is, s)
		expectKept(t, is, was)
		if no2 != no || no3 != no || table.Check(x) != no {
			t.Errorf("Check(%s) is %d, Bound's error %d, Encode's %d", short(x), no, no2, no3)
		}
		if most2, _ := table.Bound(x); most2 != most {
			t.Errorf("Bound(%s) is %v; of a copy %v", short(x), most2, most)
		}
		if b2, _ := table.Encode(x); b2 != b {
			t.Errorf("Encode(%s) is %s; of a copy %s", short(x), short(b2), short(b))
		}
		expectReads(t, x, s, fields, regs)
		said[no]++
	}
	for _, no := range []api.Errno{api.OK, wrongForm, wrongCode, wrongStack, wrongMask} {
		if said[no] < 3 {
			t.Errorf("%d came %d times", no, said[no])
		}
	}
}

// Parts that lie behind a list's length are not read, be they such that may be or not.
func TestWhatLiesBehindListsIsNotRead(t *testing.T) {
	x := laid([]rule{when("has 1", cancel(1), halt()), when("reg 0", halt())}, []rule{when("const 1", halt())})
	x.States = x.States[:1]
	x.States[0] = x.States[0][:1]
	x.States[0][0].Rows = x.States[0][0].Rows[:1]
	x.Code, x.Consts, x.Regs = x.Code[:1], x.Consts[:0], x.Regs[:0]
	want := laid([]rule{when("has 1", cancel(1))})
	want.Consts, want.Regs = nil, nil
	expectBound(t, x, 1, 1)
	expectBytes(t, x, framed(modelContent(want)))
	expectReads(t, x, span(0, 3), 2, 0)
	x.Code[0] = api.Instr{Kind: api.InstrConst}
	expectCheck(t, x, wrongCode)
	x.Code[0] = api.Instr{Kind: api.InstrReg}
	expectCheck(t, x, wrongCode)
	y := laid([]rule{when("has 1", cancel(1))})
	y.Code = append(y.Code, code("has 2, oper 6")...)[:1]
	expectCheck(t, y, api.OK)
	y.States[0][0].When.To = 3
	expectCheck(t, y, wrongForm)
}

// Lists that come out end where their room does, and no two of one table, or of several, share any: who writes into one, or lays something behind it, changes no other.
func TestTablesThatComeOutAreNew(t *testing.T) {
	for _, want := range append(several(), fullest(), longest(4096)) {
		b := bytesOf(t, want)
		x, no := table.Decode(b)
		y, no2 := table.Decode(b)
		if no != api.OK || no2 != api.OK {
			t.Fatal(no, no2)
		}
		expectApart(t, &x, &y)
		lists(elem(&x), func(v reflect.Value) {
			if v.Cap() != v.Len() {
				t.Errorf("a list of %d has room for %d", v.Len(), v.Cap())
			}
		})
		for s, guards := range x.States {
			for g := range guards {
				_ = append(guards[g].Rows, api.Row{Kind: 77})
			}
			_ = append(guards, api.Guard{Regs: 77})
			_ = append(x.States[:s+1:s+1], []api.Guard{{Regs: 77}})
		}
		_, _, _ = append(x.Code, api.Instr{Kind: 77}), append(x.Regs, 77), append(x.Consts, 77)
		if !sameTable(x, want) {
			t.Errorf("%s has changed; it was %s", short(x), short(want))
		}
		spoil(&x)
		if !sameTable(y, want) {
			t.Errorf("%s has changed; it was %s", short(y), short(want))
		}
		expectBytes(t, want, b)
	}
}

// A list that is nil and one that is empty are the same thing.
func TestEmptyListsAreNone(t *testing.T) {
	x := smallest()
	x.Regs, x.Consts, x.Code, x.States[0] = []int64{}, []int64{}, []api.Instr{}, []api.Guard{}
	expectBytes(t, x, bytesOf(t, smallest()))
	expectBound(t, x, 0, 0)
	expectReads(t, x, span(0, 1), 0, 0)
	x.Code = nil
	expectCheck(t, x, api.OK)
	x = exampleT()
	x.States[0][0].Rows = []api.Row{}
	expectCheck(t, x, wrongForm)
	x.States[0][0].Rows = nil
	expectCheck(t, x, wrongForm)
	x.States = [][]api.Guard{}
	expectCheck(t, x, wrongForm)
}

// Calls know nothing of one another: asked in any order, again, and at the same time, they say the same.
func TestCallsKnowNothingOfOneAnother(t *testing.T) {
	x, high := whole(), asking(heap(65))
	b := bytesOf(t, x)
	bound := modelBound(x)
	all := func() {
		expectCheck(t, high, wrongStack)
		expectCheck(t, x, api.OK)
		expectBound(t, x, bound.Steps, bound.Acts)
		expectNoTable(t, b[1:])
		expectBytes(t, x, b)
		expectReads(t, exampleT(), span(0, 4), 2, 0)
	}
	all()
	all()
	done := make(chan bool)
	for range 4 {
		go func() {
			for range 20 {
				all()
			}
			done <- true
		}()
	}
	for range 4 {
		<-done
	}
}
