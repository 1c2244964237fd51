package table_test

import (
	"reflect"
	"strings"
	"testing"

	"tripwire/api"
	"tripwire/lex"
)

func TestTablesThatMayBe(t *testing.T) {
	for _, x := range []api.Table{smallest(), whole(), exampleT(), asking("const 0"), fullest(), longest(4096)} {
		expectCheck(t, x, api.OK)
	}
}

// fullest has as many of all as may be, but for instructions.
func fullest() api.Table {
	var states [][]rule
	for range 12 {
		states = append(states, times(12, when("reg 11", times(8, submit(api.Limit, 4, "const 1023", "const 0", "reg 0"))...)))
	}
	x := laid(states...)
	x.Name, x.Slots, x.Regs, x.Consts = longName, 4, times[int64](12, least), times[int64](1024, greatest)
	return x
}

// longest has one guard of so many instructions.
func longest(n int) api.Table { return asking("const 0" + strings.Repeat(", oper 1", n-1)) }

func TestNames(t *testing.T) {
	named := func(name string) api.Table { return change(whole(), func(x *api.Table) { x.Name = name }) }
	for _, name := range []string{"a", "z", "x2_y", "bids", "s_", "a0", longName} {
		expectCheck(t, named(name), api.OK)
	}
	for _, name := range append(lex.Words(), "", "A", "aB", "_a", "0a", "a b", " a", "a ", "a\n", "a#", "a-b", "\x00", "é", longName+"q", strings.Repeat("a", 5000)) {
		expectCheck(t, named(name), wrongForm)
	}
}

// expectMost tells whether so many may be, and one more may not.
func expectMost(t *testing.T, most int, of func(n int) api.Table) {
	t.Helper()
	for _, n := range []int{0, 1, most - 1, most} {
		expectCheck(t, of(n), api.OK)
	}
	for _, n := range []int{most + 1, most + 2, 2 * most, 256, 256 + most, 70000} {
		if n > most {
			expectCheck(t, of(n), wrongForm)
		}
	}
}

func TestHowManyMayBe(t *testing.T) {
	expectMost(t, 12, func(n int) api.Table {
		return change(exampleT(), func(x *api.Table) { x.Regs = make([]int64, n) })
	})
	expectMost(t, 1024, func(n int) api.Table {
		x := asking("has 1")
		x.Consts = make([]int64, n)
		return x
	})
	expectMost(t, 12, func(n int) api.Table {
		return change(exampleT(), func(x *api.Table) { x.States = append(x.States, make([][]api.Guard, max(n-1, 0))...) })
	})
	expectMost(t, 12, func(n int) api.Table { return laid(times(n, when("const 0", halt()))) })
	expectMost(t, 12, func(n int) api.Table { return laid(nil, times(n, when("const 0", halt())), nil) })
	expectMost(t, 4096, func(n int) api.Table {
		if n == 0 {
			return smallest()
		}
		return longest(n)
	})
}

// Instructions are counted together, whichever spans they stand in.
func TestHowManyInstructionsMayBeInAll(t *testing.T) {
	of := func(n int) api.Table {
		half := func(n int) string { return "const 0" + strings.Repeat(", oper 1", n-1) }
		return laid([]rule{when(half(1000), set(0, half(1000)), halt())}, []rule{when(half(1000), amend(1, half(1000), half(n-4000)))})
	}
	expectCheck(t, of(4096), api.OK)
	expectCheck(t, of(4097), wrongForm)
}

func TestNoStates(t *testing.T) {
	expectCheck(t, api.Table{Name: "s"}, wrongForm)
	expectCheck(t, api.Table{Name: "s", States: [][]api.Guard{}}, wrongForm)
	expectCheck(t, api.Table{}, wrongForm)
}

func TestSlots(t *testing.T) {
	for n := range 5 {
		expectCheck(t, change(exampleT(), func(x *api.Table) { x.Slots = n }), api.OK)
	}
	for _, n := range []int{-1, -4, 5, 6, 256, 1 << 32, least, greatest} {
		expectCheck(t, change(exampleT(), func(x *api.Table) { x.Slots = n }), wrongForm)
	}
}

func TestHowManyRowsMayBe(t *testing.T) {
	for n := 1; n <= 8; n++ {
		expectCheck(t, laid([]rule{when("const 0", times(n, cancel(1))...)}), api.OK)
		expectCheck(t, laid(nil, []rule{when("const 0", halt()), when("const 0", times(n, set(1, "const 0"))...)}), api.OK)
	}
	for _, n := range []int{0, 9, 10, 256, 257, 70000} {
		expectCheck(t, laid([]rule{when("const 0", times(n, cancel(1))...)}), wrongForm)
		expectCheck(t, laid([]rule{when("const 0", halt())}, []rule{when("const 0", halt()), when("const 0", times(n, cancel(2))...)}), wrongForm)
	}
}

// Without a guard there is no span, and so no instruction.
func TestTablesWithoutGuards(t *testing.T) {
	for n := 1; n <= 12; n++ {
		x := api.Table{Name: "s", Regs: []int64{1}, Slots: 4, Consts: []int64{1}, States: make([][]api.Guard, n)}
		expectCheck(t, x, api.OK)
		expectBound(t, x, 0, 0)
		x.Code = code("const 0")
		expectCheck(t, x, wrongForm)
		x.Code = []api.Instr{}
		expectCheck(t, x, api.OK)
	}
}

// Each kind of row with each Order, Index, and each set of spans: by what the chapter's table says.
func TestRows(t *testing.T) {
	taken := map[api.DoKind]int{}
	orders := []api.Kind{0, 1, 2, 3, 4, 5, 6, 7, 129, 255}
	indexes := []int{-1, 0, 1, 2, 3, 4, 5, 12, 256, 257, 1<<32 + 1, least, greatest}
	for _, kind := range []api.DoKind{0, 1, 2, 3, 4, 5, 6, 7, 8, 129, 255} {
		for _, order := range orders {
			for _, index := range indexes {
				for set := range 16 {
					d := thing{row: api.Row{Kind: kind, Order: order, Index: index}}
					var is [4]bool
					for i := range d.code {
						if is[i] = set>>i&1 == 1; is[i] {
							d.code[i] = code("const 0")
						}
					}
					x := laid([]rule{when("has 1", d)}, nil, nil, nil, nil)
					inOrder, inIndex, has := asked(x, d.row)
					want := wrongForm
					if between(int(order), inOrder) && between(index, inIndex) && is == has {
						want = api.OK
						taken[kind]++
					}
					expectCheck(t, x, want)
				}
			}
		}
	}
	// Two slots, three registers, five states; a submit's order is one of five.
	if want := map[api.DoKind]int{1: 5 * 3, 2: 2, 3: 2, 4: 3, 5: 5, 6: 1}; !reflect.DeepEqual(taken, want) {
		t.Errorf("%v were taken; want %v", taken, want)
	}
}

// What rows may name hangs on how many slots, registers and states there are.
func TestIndexes(t *testing.T) {
	for n := range 5 {
		for k := -1; k <= 5; k++ {
			may := func(is bool) api.Errno {
				if is {
					return api.OK
				}
				return wrongForm
			}
			slots := func(d thing) api.Table {
				x := laid([]rule{when("has 1", d)})
				x.Slots = n
				return x
			}
			expectCheck(t, slots(submit(api.Now, k, "has 1", "has 1", "has 1")), may(k >= 0 && k <= n))
			expectCheck(t, slots(submit(api.Market, k, "has 1", "has 1", "")), may(k >= 0 && k <= n))
			expectCheck(t, slots(amend(k, "has 1", "has 1")), may(k >= 1 && k <= n))
			expectCheck(t, slots(cancel(k)), may(k >= 1 && k <= n))
			regs := laid([]rule{when("has 1", set(k, "has 1"))})
			regs.Regs = make([]int64, n)
			expectCheck(t, regs, may(k >= 0 && k < n))
			states := laid([]rule{when("has 1", goTo(k))})
			states.States = append(states.States, make([][]api.Guard, n)...)
			expectCheck(t, states, may(k >= 0 && k <= n))
		}
	}
	expectCheck(t, fullest(), api.OK)
	expectCheck(t, change(laid([]rule{when("has 1", set(11, "has 1"), goTo(11))}), func(x *api.Table) {
		x.Regs, x.States = make([]int64, 12), append(x.States, make([][]api.Guard, 11)...)
	}), api.OK)
}

func TestRowsBehindTheLast(t *testing.T) {
	each := []thing{submit(api.Limit, 1, "const 0", "const 0", "const 0"), submit(api.Market, 0, "const 0", "const 0", ""), amend(1, "const 0", "const 0"), cancel(1), set(0, "const 0"), goTo(0), halt()}
	for _, d := range each {
		want := api.OK
		for _, ahead := range []thing{goTo(0), halt()} {
			expectCheck(t, laid([]rule{when("has 1", ahead, d)}), wrongForm)
			expectCheck(t, laid([]rule{when("has 1", cancel(2), ahead, d)}), wrongForm)
			expectCheck(t, laid([]rule{when("has 1", ahead, d, cancel(2))}), wrongForm)
			expectCheck(t, laid([]rule{when("has 1", ahead), when("has 1", ahead, d)}), wrongForm)
			expectCheck(t, laid([]rule{when("has 1", ahead), when("has 1", d)}, []rule{when("has 1", d)}), api.OK)
			expectCheck(t, laid([]rule{when("has 1", d, ahead)}), map[bool]api.Errno{true: wrongForm}[d.row.Kind >= api.DoGoto])
		}
		for _, ahead := range each[:5] {
			expectCheck(t, laid([]rule{when("has 1", ahead, d)}), want)
		}
	}
}

// Spans that a row has not are noughts, whatever else they would say.
func TestSpansThatARowHasNot(t *testing.T) {
	for s := range 4 {
		for _, d := range []thing{submit(api.Limit, 1, "const 0", "const 0", "const 0"), submit(api.Market, 0, "const 0", "const 0", ""), amend(1, "const 0", "const 0"), cancel(1), set(0, "const 0"), goTo(0), halt()} {
			if d.code[s] != nil {
				continue
			}
			for _, x := range []api.Span{span(0, 1), span(1, 1), span(1, 0), span(-1, 0), span(0, -1), span(-1, -1), span(least, least), span(greatest, greatest), span(4, 4), span(3, 4), span(4, 5)} {
				y := laid([]rule{when("const 0", d)})
				reflect.ValueOf(&y.States[0][0].Rows[0]).Elem().FieldByName([]string{"Side", "Qty", "Price", "Value"}[s]).Set(reflect.ValueOf(x))
				expectCheck(t, y, wrongForm)
			}
		}
	}
}

// The spans lie one behind the other: any end that is another one leaves a gap, or overlaps, or is turned about, or does not end where the instructions do.
func TestEachEndOfASpan(t *testing.T) {
	for _, x := range []api.Table{whole(), exampleT(), smallest()} {
		ends := 0
		leaves(elem(&x), "", func(name string, _ reflect.Value) {
			if name == "From" || name == "To" {
				ends++
			}
		})
		for _, to := range []func(n int64) int64{
			func(n int64) int64 { return n + 1 }, func(n int64) int64 { return n - 1 }, func(n int64) int64 { return -n - 1 }, func(n int64) int64 { return n + 1<<32 },
			func(n int64) int64 { return least }, func(n int64) int64 { return greatest }, func(n int64) int64 { return n - 4096 },
		} {
			for k := range ends {
				expectCheck(t, change(x, func(x *api.Table) {
					seen := 0
					leaves(elem(x), "", func(name string, v reflect.Value) {
						if name != "From" && name != "To" {
							return
						}
						if seen == k {
							v.SetInt(to(v.Int()))
						}
						seen++
					})
				}), wrongForm)
			}
		}
	}
}

// Two spans that lie one behind the other, by each way in which they might lie otherwise.
func TestSpansThatLieOtherwise(t *testing.T) {
	lying := func(w, v api.Span, instrs int) api.Table {
		x := laid([]rule{when("const 0", set(0, "const 0"))})
		x.Code = times(instrs, api.Instr{Kind: api.InstrConst})
		x.States[0][0].When, x.States[0][0].Rows[0].Value = w, v
		return x
	}
	expectCheck(t, lying(span(0, 1), span(1, 2), 2), api.OK)
	for _, c := range []struct {
		when, value api.Span
		instrs      int
	}{
		{span(0, 1), span(2, 3), 3},  // a gap between them
		{span(1, 2), span(2, 3), 3},  // one ahead of them
		{span(0, 1), span(1, 2), 3},  // one behind them
		{span(0, 1), span(0, 1), 1},  // the same
		{span(0, 1), span(0, 2), 2},  // overlapping
		{span(0, 2), span(1, 2), 2},  // within
		{span(0, 0), span(0, 1), 1},  // empty
		{span(0, 1), span(1, 1), 1},  // empty
		{span(0, 0), span(0, 0), 0},  // empty both
		{span(1, 2), span(0, 1), 2},  // the other one first
		{span(1, 0), span(0, 1), 1},  // turned about
		{span(0, 2), span(2, 1), 1},  // turned about
		{span(0, 1), span(1, 0), 2},  // turned about
		{span(-1, 0), span(0, 1), 1}, // below 0
		{span(-2, -1), span(-1, 0), 0},
		{span(0, 1), span(1, 3), 2}, // behind the last instruction
		{span(0, 1), span(1, 2), 1},
		{span(0, 1), span(1, 2), 0},
		{span(0, 3), span(3, 2), 2},
		{span(0, greatest), span(greatest, greatest), 2},
		{span(0, greatest), span(greatest, least), 2},
		{span(0, greatest), span(greatest, 2), 2},
		{span(least, 0), span(0, 2), 2},
	} {
		expectCheck(t, lying(c.when, c.value, c.instrs), wrongForm)
	}
}

// Guards of one state, and of several, are not told apart by the code: each span's From is where the last one ended, whoever had that.
func TestSpansGoOnFromStateToState(t *testing.T) {
	x := laid([]rule{when("const 0", halt()), when("const 0", halt())}, nil, []rule{when("const 0", halt())})
	expectCheck(t, x, api.OK)
	for _, c := range [][2]int{{0, 1}, {1, 0}} {
		y := copied(x)
		y.States[0][c[0]].When, y.States[0][c[1]].When = x.States[0][c[1]].When, x.States[0][c[0]].When
		expectCheck(t, y, wrongForm)
	}
	y := copied(x)
	y.States[0], y.States[2] = x.States[2], x.States[0]
	expectCheck(t, y, wrongForm)
	y = copied(x)
	y.States[1], y.States[2] = x.States[2], x.States[1]
	expectCheck(t, y, api.OK)
	y = copied(x)
	y.States[2][0].When = span(0, 1)
	expectCheck(t, y, wrongForm)
}
