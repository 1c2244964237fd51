package machine_test

import (
	"strings"
	"testing"

	"tripwire/api"
	"tripwire/machine"
	"tripwire/table"
)

// Which calls are refused, by which error, and which of several comes first.

// refused is a table that table.Check refuses, and why.
type refused struct {
	x  api.Table
	no api.Errno
}

// refusedOfEach are refused for each of chapter 19's errors, in a part that a turn comes to, and in one that it does not.
func refusedOfEach() []refused {
	form := func(turn func(x *api.Table)) refused {
		return refused{change(doing(submit(api.Limit, 1, "num 1", "num 1", "num 1"), set(0, "num 1")), turn), wrongForm}
	}
	later := func(text string, no api.Errno) refused {
		return refused{laid([]rule{when("num 1", halt()), when("num 1", set(0, text))}, []rule{when("num 1", goTo(0))}), no}
	}
	return []refused{
		{api.Table{}, wrongForm}, {api.Table{Name: "s"}, wrongForm}, {api.Table{Name: "S", States: make([][]api.Guard, 1)}, wrongForm}, {api.Table{Name: "s", States: make([][]api.Guard, 13)}, wrongForm},
		form(func(x *api.Table) { x.Name = "bid" }), form(func(x *api.Table) { x.Slots = 5 }), form(func(x *api.Table) { x.Slots = -1 }), form(func(x *api.Table) { x.Regs = make([]int64, 13) }), form(func(x *api.Table) { x.Consts = make([]int64, 1025) }),
		form(func(x *api.Table) { x.Code = x.Code[:len(x.Code)-1] }), form(func(x *api.Table) { x.Code = append(x.Code, x.Code[0]) }), form(func(x *api.Table) { x.States[0][0].Rows = nil }), form(func(x *api.Table) { x.States[0][0].When.To++ }),
		form(func(x *api.Table) { x.States[0][0].Rows[0].Order = 6 }), form(func(x *api.Table) { x.States[0][0].Rows[0].Index = 3 }), form(func(x *api.Table) { x.States[0][0].Rows[1].Index = 3 }), form(func(x *api.Table) { x.States[0][0].Rows[1].Kind = 7 }),
		{doing(halt(), halt()), wrongForm}, {doing(goTo(2)), wrongForm}, {doing(cancel(0)), wrongForm}, {laid([]rule{when("num 1", halt())}, []rule{when("num 1", goTo(9))}), wrongForm},
		{asking("field 0"), wrongCode}, {asking("field 7"), wrongCode}, {asking("has 4"), wrongCode}, {asking("const 0"), wrongCode}, {asking("reg 3"), wrongCode}, {asking("num 1, oper 17"), wrongCode}, {asking("num 1, oper 0"), wrongCode}, {asking("num 1, jump 1"), wrongCode}, {asking("num 1, and 3"), wrongCode},
		later("reg -1", wrongCode), later("jump 0, num 1", wrongCode),
		{asking("num 1, num 1"), wrongStack}, {asking("neg"), wrongStack}, {asking("num 1, add"), wrongStack}, {asking("num 1, jump 3, neg"), wrongStack}, {asking("num 1" + strings.Repeat(", num 1", 64) + strings.Repeat(", add", 64)), wrongStack},
		later("num 1, and 2", wrongStack), later("jump 1", wrongStack),
		{change(asking("has 1"), func(x *api.Table) { x.States[0][0].Fields = 0 }), wrongMask}, {change(asking("has 1"), func(x *api.Table) { x.States[0][0].Fields = 6 }), wrongMask}, {change(asking("reg 1"), func(x *api.Table) { x.States[0][0].Regs = 1 }), wrongMask},
		{change(laid([]rule{when("num 1", halt())}, []rule{when("num 1", halt())}), func(x *api.Table) { x.States[1][0].Regs = 4 }), wrongMask},
	}
}

// Every call refuses a table that may not be, by table.Check's error, whatever else is handed in.
func TestTablesThatMayNotBe(t *testing.T) {
	reached := map[api.Errno]int{}
	for _, x := range refusedOfEach() {
		if no := table.Check(x.x); no != x.no {
			t.Errorf("table says %d of %s; want %d", no, short(x.x), x.no)
		}
		reached[x.no]++
		expectNoStart(t, x.x, x.no)
		for _, m := range []api.Mode{begun(), {}, mode(-1, 5, -6, 7), mode(99), mode(0, 1, 2, 3, 4)} {
			for _, w := range []api.Snap{seen(), {}, {Bid: -1}, {Open: greatest}} {
				for _, s := range []api.Span{span(0, 1), {}, span(-1, 99), span(0, len(x.x.Code)), span(least, greatest)} {
					expectNoValue(t, x.x, s, m, w, x.no)
				}
				expectNoTurn(t, x.x, m, w, x.no)
			}
		}
	}
	for _, no := range []api.Errno{wrongForm, wrongCode, wrongStack, wrongMask} {
		if reached[no] < 3 {
			t.Errorf("%d was reached %d times", no, reached[no])
		}
	}
}

// expectMode tells whether a mode is the table's, by both calls that ask; its first guard of each state is one of 0 in one step.
func expectMode(t *testing.T, x api.Table, m api.Mode) {
	t.Helper()
	expectValue(t, x, span(0, 1), m, seen(), result{0, 1, api.OK})
	expectStays(t, x, m, seen(), nothing(1))
}

func expectNoMode(t *testing.T, x api.Table, m api.Mode) {
	t.Helper()
	expectNoValue(t, x, span(0, 1), m, seen(), noMode)
	expectNoTurn(t, x, m, seen(), noMode)
	// Ahead of what is wrong behind it.
	expectNoValue(t, x, span(0, 2), m, seen(), noMode)
	expectNoValue(t, x, span(0, 1), m, api.Snap{Now: -1}, noMode)
	expectNoTurn(t, x, m, api.Snap{Now: -1}, noMode)
}

func TestStatesOfModes(t *testing.T) {
	for count := 1; count <= 12; count++ {
		var states [][]rule
		for range count {
			states = append(states, []rule{when("num 0", halt())})
		}
		x := laid(states...)
		for k := range count {
			expectMode(t, x, mode(k, 5, -6, 7))
		}
		for _, k := range []int{-1, -2, least, -count, count, count + 1, 12, 13, 256, 1 << 32, greatest} {
			if k < 0 || k >= count {
				expectNoMode(t, x, mode(k, 5, -6, 7))
			}
		}
	}
}

// A mode has as many registers as the table, with any numbers.
func TestRegistersOfModes(t *testing.T) {
	for count := range 13 {
		x := asking("num 0")
		x.Regs = times(count, int64(8))
		expectStart(t, x, x.Regs...)
		for have := range 15 {
			m := mode(0, times(have, int64(1))...)
			if have == count {
				expectMode(t, x, m)
			} else {
				expectNoMode(t, x, m)
			}
		}
		for _, n := range edges() {
			expectMode(t, x, mode(0, times(count, n)...))
		}
	}
	x := asking("num 0")
	expectNoMode(t, x, api.Mode{})
	expectNoMode(t, x, api.Mode{Regs: make([]int64, 0, 3)})
	expectNoMode(t, x, mode(0, 5, -6))
	expectNoMode(t, x, mode(0, 5, -6, 7, 0))
	regs := []int64{1, 2, 3, 4, 5}
	expectMode(t, x, mode(0, regs[:3]...))
	expectNoMode(t, x, mode(0, regs[:2]...))
	expectNoMode(t, x, mode(0, regs[:4]...))
	x.Regs = nil
	expectMode(t, x, api.Mode{})
	expectMode(t, x, api.Mode{Regs: []int64{}})
	expectNoMode(t, x, mode(0, 0))
}

func badSnaps() []api.Snap {
	all := []api.Snap{{Bid: 1, Ask: 2, Last: 3, Volume: 4, Now: 5, Open: -6}, {Bid: -1, Open: greatest}}
	for f := 1; f <= 6; f++ {
		all = append(all, snapWith(f, -1), snapWith(f, least), snapWith(f, mostOf(f)+1), snapWith(f, greatest))
	}
	return all
}

func TestSnapshotsThatMayNotBe(t *testing.T) {
	x := laid([]rule{when("num 1, num 0, div", halt())}, []rule{when("field 1", set(0, "has 1"))})
	for _, w := range badSnaps() {
		for _, m := range []api.Mode{begun(), mode(1, 5, -6, 7)} {
			for _, s := range append(spansOf(x), span(0, 0), span(0, 1), span(4, 3), span(-1, 99)) {
				expectNoValue(t, x, s, m, w, snapRange)
			}
			expectNoTurn(t, x, m, w, snapRange)
		}
		expectNoTurn(t, smallest(), api.Mode{}, w, snapRange)
		// Start asks for none.
		expectStart(t, x, 5, -6, 7)
	}
	// A bid above what is asked is no snapshot's fault; each field may be at its greatest.
	w := api.Snap{Bid: api.MaxPrice, Ask: 1, Last: api.MaxPrice, Volume: api.MaxVolume, Now: api.MaxTime, Open: api.MaxOpen}
	expectValue(t, x, span(3, 4), begun(), w, result{api.MaxPrice, 1, api.OK})
	expectFires(t, x, mode(1, 5, -6, 7), w, fires(2, 0), mode(1, 1, -6, 7))
}

// Which spans are a table's: all of its guards' and rows', of whatever state, and no others.
func TestSpansOfATable(t *testing.T) {
	x := laid(
		[]rule{when("num 0, not", submit(api.Limit, 1, "num 1", "num 2, neg, neg", "field 3, num 1, sub"), set(2, "reg 0")), when("has 1, and 4, num 4, neg", cancel(1))},
		nil,
		[]rule{when("num 3", market(0, "num 1, abs", "num 6"), amend(1, "reg 1, abs", "num 5"), goTo(1)), when("num 8, num 9, min", halt())},
	)
	is := map[api.Span]int64{
		span(0, 2): 1, span(2, 3): 1, span(3, 6): 2, span(6, 9): 11, span(9, 10): 5, span(10, 14): -4,
		span(14, 15): 3, span(15, 17): 1, span(17, 18): 6, span(18, 20): 6, span(20, 21): 5, span(21, 24): 8,
	}
	if all := spansOf(x); len(all) != len(is) || len(x.Code) != 24 {
		t.Fatal(all)
	}
	for state := range 3 {
		m := mode(state, 5, -6, 7)
		for from := -2; from <= 26; from++ {
			for to := -2; to <= 26; to++ {
				s := span(from, to)
				if n, has := is[s]; has {
					expectValue(t, x, s, m, seen(), result{n, to - from, api.OK})
					continue
				}
				// Empty ones, also at a span's ends, ones that lie within others, that overlap or join them, that go backwards or beyond the code.
				expectNoValue(t, x, s, m, seen(), noSpan)
			}
		}
		for _, s := range []api.Span{{}, span(least, greatest), span(greatest, least), span(0, greatest), span(least, 2), span(1<<32, 1<<32+2), span(24, 25), span(24, 24)} {
			expectNoValue(t, x, s, m, seen(), noSpan)
		}
	}
	// Without guards there is none at all; nor is what a row has not, which is noughts.
	for _, s := range []api.Span{{}, span(0, 1), span(-1, 0), span(1, 0)} {
		expectNoValue(t, smallest(), s, api.Mode{}, seen(), noSpan)
	}
	expectNoValue(t, doing(market(1, "num 1", "num 1"), cancel(1), halt()), span(0, 0), begun(), seen(), noSpan)
}

// What forbids a call comes ahead of faults that it would meet.
func TestErrorsComeAheadOfFaults(t *testing.T) {
	x := asking("num 1, num 0, div")
	expectNoValue(t, x, span(0, 2), begun(), api.Snap{}, noSpan)
	expectNoValue(t, x, span(0, 3), mode(1, 5, -6, 7), api.Snap{}, noMode)
	expectNoValue(t, x, span(0, 3), begun(), api.Snap{Bid: -1}, snapRange)
	expectValue(t, x, span(0, 3), begun(), api.Snap{}, result{0, 3, zero})
	expectNoTurn(t, x, mode(1, 5, -6, 7), api.Snap{}, noMode)
	expectNoTurn(t, x, begun(), api.Snap{Bid: -1}, snapRange)
	expectStays(t, x, begun(), api.Snap{}, faults(3, zero))
}

// Several wrong at once, in every set of them: the table, the mode, the snapshot, the span, and what the span faults with, in this order.
func TestSeveralWrongAtOnce(t *testing.T) {
	modes := []api.Mode{mode(2, 5, -6, 7), mode(-1, 5, -6, 7), mode(0, 5, -6), mode(0), mode(9, 1)}
	spans := []api.Span{{}, span(1, 3), span(0, 99), span(3, 0)}
	tables := refusedOfEach()
	good := laid([]rule{when("field 1", halt())}, nil)
	for set := range 16 {
		for k := range 24 {
			x, m, w, s := good, begun(), api.Snap{}, span(0, 1)
			want := absent
			if set&1 != 0 {
				s, want = spans[k%len(spans)], noSpan
			}
			turn := absent
			if set&2 != 0 {
				w = badSnaps()[k%len(badSnaps())]
				want, turn = snapRange, snapRange
			}
			if set&4 != 0 {
				m = modes[k%len(modes)]
				want, turn = noMode, noMode
			}
			if set&8 != 0 {
				x = tables[k*5%len(tables)].x
				want, turn = tables[k*5%len(tables)].no, tables[k*5%len(tables)].no
			}
			if want == absent {
				expectValue(t, x, s, m, w, result{0, 1, absent})
			} else {
				expectNoValue(t, x, s, m, w, want)
			}
			if turn == absent {
				expectStays(t, x, m, w, faults(1, absent))
			} else {
				expectNoTurn(t, x, m, w, turn)
			}
		}
	}
}

// Start tells table.Check's errors alone, and begins in the first state, with what the table says, whatever that is.
func TestStart(t *testing.T) {
	expectStart(t, smallest())
	expectStart(t, exampleU(), -2)
	for _, n := range edges() {
		x := laid([]rule{when("num 1, num 0, div", halt())}, []rule{when("num 1", goTo(0))})
		x.Regs = []int64{n, 3, n}
		expectStart(t, x, n, 3, n)
	}
	x := smallest()
	for k := range int64(12) {
		x.Regs = append(x.Regs, k*k-20)
		expectStart(t, x, x.Regs...)
	}
	x.Regs = append(x.Regs, 1)
	expectNoStart(t, x, wrongForm)
}

// How the errors and the faults are told: as numbers of their own, each by its name.
func TestNumbersOfErrors(t *testing.T) {
	if noSpan != 1 || noMode != 200 || noSide != 201 || over != 10 || zero != 11 || absent != 170 {
		t.Error(noSpan, noMode, noSide, over, zero, absent)
	}
	if f, _, no := machine.Turn(doing(market(0, "num 3", "num 1")), begun(), api.Snap{}, true); no != api.OK || f.Code != 201 {
		t.Error(f, no)
	}
}
