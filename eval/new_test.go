package eval_test

import (
	"strings"
	"testing"

	"tripwire/api"
	"tripwire/eval"
	"tripwire/table"
)

// refused is a table that table.Check refuses, and why.
type refused struct {
	x  api.Table
	no api.Errno
}

// refusedOfEach are refused for each of chapter 19's errors, in a part that a turn comes to, and in one that it does not.
func refusedOfEach() []refused {
	form := func(turn func(x *api.Table)) refused {
		return refused{change(doing(submit(api.Limit, 1, "num 1", "num 1", "num 1"), set(0, "num 1")), turn), wrongForm}
	}
	later := func(text string, no api.Errno) refused {
		return refused{laid([]rule{when("num 1", halt()), when("num 1", set(0, text))}, []rule{when("num 1", goTo(0))}), no}
	}
	return []refused{
		{api.Table{}, wrongForm}, {api.Table{Name: "s"}, wrongForm}, {api.Table{Name: "S", States: make([][]api.Guard, 1)}, wrongForm}, {api.Table{Name: "s", States: make([][]api.Guard, 13)}, wrongForm},
		form(func(x *api.Table) { x.Name = "bid" }), form(func(x *api.Table) { x.Slots = 5 }), form(func(x *api.Table) { x.Slots = -1 }), form(func(x *api.Table) { x.Regs = make([]int64, 13) }),
		form(func(x *api.Table) { x.Consts = make([]int64, 1025) }), form(func(x *api.Table) { x.Code = x.Code[:len(x.Code)-1] }), form(func(x *api.Table) { x.States[0][0].Rows = nil }), form(func(x *api.Table) { x.States[0][0].When.To++ }),
		form(func(x *api.Table) { x.States[0][0].Rows[0].Order = 6 }), form(func(x *api.Table) { x.States[0][0].Rows[0].Index = 3 }), form(func(x *api.Table) { x.States[0][0].Rows[1].Index = 3 }), form(func(x *api.Table) { x.States[0][0].Rows[1].Kind = 7 }),
		{doing(halt(), halt()), wrongForm}, {doing(goTo(1), halt()), wrongForm}, {doing(halt(), goTo(1)), wrongForm}, {doing(goTo(2)), wrongForm}, {doing(cancel(0)), wrongForm}, {laid([]rule{when("num 1", halt())}, []rule{when("num 1", goTo(9))}), wrongForm},
		{asking("field 0"), wrongCode}, {asking("field 7"), wrongCode}, {asking("has 4"), wrongCode}, {asking("const 0"), wrongCode}, {asking("reg 3"), wrongCode}, {asking("num 1, oper 17"), wrongCode}, {asking("num 1, jump 1"), wrongCode}, {asking("num 1, and 3"), wrongCode},
		later("reg -1", wrongCode), later("jump 0, num 1", wrongCode), later("num 1, and 4, num 1", wrongCode),
		{asking("num 1, num 1"), wrongStack}, {asking("neg"), wrongStack}, {asking("num 1, add"), wrongStack}, {asking("num 1, jump 3, neg"), wrongStack}, {asking("num 1" + strings.Repeat(", num 1", 64) + strings.Repeat(", add", 64)), wrongStack},
		later("num 1, and 2", wrongStack), later("jump 1", wrongStack),
		{change(asking("has 1"), func(x *api.Table) { x.States[0][0].Fields = 0 }), wrongMask}, {change(asking("has 1"), func(x *api.Table) { x.States[0][0].Fields = 6 }), wrongMask}, {change(asking("reg 1"), func(x *api.Table) { x.States[0][0].Regs = 1 }), wrongMask},
		{change(laid([]rule{when("num 1", halt())}, []rule{when("num 1", halt())}), func(x *api.Table) { x.States[1][0].Regs = 4 }), wrongMask},
	}
}

// badSnaps are those that may not be.
func badSnaps() []api.Snap {
	return []api.Snap{
		{Bid: -1}, {Ask: -1}, {Last: -1}, {Volume: -1}, {Now: -1}, {Open: -1}, {Bid: least}, {Open: least},
		{Bid: api.MaxPrice + 1}, {Ask: api.MaxPrice + 1}, {Last: api.MaxPrice + 1}, {Volume: api.MaxVolume + 1}, {Now: api.MaxTime + 1}, {Open: api.MaxOpen + 1}, {Now: greatest},
		{Bid: 1, Ask: 2, Last: 3, Volume: 4, Now: 5, Open: -6}, {Bid: -1, Open: greatest},
	}
}

// goodSnaps are such that may be, at the ends of their ranges.
func goodSnaps() []api.Snap {
	return []api.Snap{
		{}, seen(), {Bid: api.MaxPrice}, {Ask: api.MaxPrice}, {Last: api.MaxPrice}, {Volume: api.MaxVolume}, {Now: api.MaxTime}, {Open: api.MaxOpen},
		{Bid: api.MaxPrice, Ask: 1, Last: api.MaxPrice, Volume: api.MaxVolume, Now: api.MaxTime, Open: api.MaxOpen},
	}
}

func expectNoNew(t *testing.T, x api.Table, w api.Snap, want api.Errno) {
	t.Helper()
	if e, no := eval.New(x, w); e != nil || no != want {
		t.Errorf("New(%s, %v) is %v, %d; want %d", short(x), w, e, no, want)
	}
}

// A table that may not be is told ahead of a snapshot that may not be.
func TestWhatMayNotBeIsNotMade(t *testing.T) {
	reached := map[api.Errno]int{}
	for _, x := range refusedOfEach() {
		if no := table.Check(x.x); no != x.no {
			t.Errorf("table says %d of %s; want %d", no, short(x.x), x.no)
		}
		reached[x.no]++
		for _, w := range append(badSnaps(), goodSnaps()...) {
			expectNoNew(t, x.x, w, x.no)
		}
	}
	expectReached(t, reached, 3, wrongForm, wrongCode, wrongStack, wrongMask)
	for _, x := range []api.Table{smallest(), exampleU(), asking("num 1"), asking("num 1, num 0, div"), doing(market(0, "num 3", "num 1"))} {
		for _, w := range badSnaps() {
			expectNoNew(t, x, w, snapRange)
		}
	}
}

// What is made does not run; it has the snapshot, the table's beginning, knows nothing, and has made no step.
func TestWhatIsMade(t *testing.T) {
	for _, w := range goodSnaps() {
		expectStanding(t, made(t, smallest(), w), standing{snap: w})
		expectStanding(t, made(t, exampleU(), w), standing{mode: mode(0, -2), snap: w, known: "- | "})
		x := laid([]rule{when("num 1", halt()), when("has 1", cancel(1))}, nil, []rule{when("reg 2", goTo(0))})
		expectStanding(t, made(t, x, w), standing{mode: begun(), snap: w, known: "- - |  | -"})
	}
	for count := range 13 {
		for _, n := range edges() {
			x := smallest()
			x.Regs = times(count, n)
			expectStanding(t, made(t, x, api.Snap{}), standing{mode: mode(0, x.Regs...)})
		}
	}
	// The greatest that may be.
	var states [][]rule
	for range 12 {
		states = append(states, times(12, when("reg 2, num 9, gt", times(8, cancel(2))...)))
	}
	r := started(t, laid(states...), seen())
	expectTurn(t, r, true, nothing(36))
	all := strings.TrimSpace(strings.Repeat("0 ", 12))
	none := strings.TrimSpace(strings.Repeat("- ", 12))
	expectKnows(t, r, all+strings.Repeat(" | "+none, 11))
	expectTurn(t, r, true, nothing(0), bid(5), now(99))
}

// Numbers of the errors.
func TestNumbersOfErrors(t *testing.T) {
	if ended != 210 || snapRange != 100 || noSide != 201 {
		t.Error(ended, snapRange, noSide)
	}
}
