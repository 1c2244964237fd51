package lower_test

import (
	"slices"
	"strconv"
	"testing"

	"tripwire/api"
)

// expectTable tells whether a strategy has just this table.
func expectTable(t *testing.T, s api.Strategy, want api.Table) {
	t.Helper()
	if x := tableOf(t, s); !sameTable(x, want) {
		t.Errorf("Strategy(%s) is %+v; want %+v", short(s), x, want)
	}
}

// Without registers, slots and rules a table has nothing but its name and its states.
func TestTheSmallestTable(t *testing.T) {
	expectTable(t, smallest(), api.Table{Name: "s", States: make([][]api.Guard, 1)})
	s := smallest()
	s.Name = longName
	s.States = nil
	for k := range 12 {
		s.States = append(s.States, api.State{Name: "x" + strconv.Itoa(k)})
		expectTable(t, s, api.Table{Name: longName, States: make([][]api.Guard, k+1)})
	}
}

// Names, registers and slots: what registers begin with, also below 0, how many slots.
func TestRegistersAndSlots(t *testing.T) {
	for count := range 13 {
		s := smallest()
		var want []int64
		for k := range count {
			n := []int64{0, 1, 7, greatest}[k%4]
			r := api.Reg{Name: "r" + strconv.Itoa(k), Type: api.Type(1 + k%4), Init: lit(api.Type(1+k%4), n)}
			if k%3 == 0 {
				r.Init, n = unary(api.OperNeg, r.Init), -n
			}
			s.Regs, want = append(s.Regs, r), append(want, n)
		}
		for k := range min(count, 4) {
			s.Slots = append(s.Slots, api.Slot{Name: "o" + strconv.Itoa(k)})
		}
		expectTable(t, s, api.Table{Name: "s", Regs: want, Slots: min(count, 4), States: make([][]api.Guard, 1)})
	}
	expectTable(t, full(), api.Table{Name: "s", Regs: []int64{1, 1, -1, 1, 1, 2}, Slots: 2, States: make([][]api.Guard, 2)})
}

// States and rules stand in their order; those without rules have none, wherever they stand.
func TestStatesAndRules(t *testing.T) {
	s := smallest()
	s.Regs = full().Regs
	s.States = nil
	for k, rules := range []int{0, 2, 0, 1, 3, 0} {
		x := api.State{Name: "s" + strconv.Itoa(k)}
		for range rules {
			x.Rules = append(x.Rules, rule(reg("b"), halt()))
		}
		s.States = append(s.States, x)
	}
	g := func(from int) api.Guard {
		return api.Guard{When: span(from, from+1), Regs: 1 << 4, Rows: []api.Row{{Kind: api.DoHalt}}}
	}
	expectTable(t, s, api.Table{
		Name: "s", Regs: []int64{1, 1, -1, 1, 1, 2}, Code: code("reg 4, reg 4, reg 4, reg 4, reg 4, reg 4"),
		States: [][]api.Guard{nil, {g(0), g(1)}, nil, {g(2)}, {g(3), g(4), g(5)}, nil},
	})
}

// What a guard reads: fields, what asks for them, registers; of what its rule does nothing.
func TestWhatGuardsRead(t *testing.T) {
	for text, want := range map[string]struct {
		fields api.Mask
		regs   uint16
	}{
		"true": {}, "1 < 2": {}, "1 / 0 == 0": {}, "b": {0, 1 << 4}, "!b": {0, 1 << 4}, "b == (i == int(q))": {0, 1<<0 | 1<<1 | 1<<4},
		"bid > 1p": {1 << 1, 0}, "ask > 1p": {1 << 2, 0}, "last > 1p": {1 << 3, 0}, "volume > 1q": {1 << 4, 0}, "now > 1t": {1 << 5, 0}, "open > 1q": {1 << 6, 0},
		"has bid": {1 << 1, 0}, "has ask": {1 << 2, 0}, "has last": {1 << 3, 0}, "has bid && bid > 1p": {1 << 1, 0}, "has bid && ask > last": {1<<1 | 1<<2 | 1<<3, 0},
		"i > 1": {0, 1}, "q > 1q": {0, 2}, "p > 1p": {0, 4}, "t > 1t": {0, 8}, "d == buy": {0, 32}, "i + i > i": {0, 1},
		"bid > p && now > t || (b ? open > q : volume > q)": {1<<1 | 1<<5 | 1<<6 | 1<<4, 2 | 4 | 8 | 16}, "b || (b || (b || last == p))": {1 << 3, 16 | 4},
		"b && false && ask > 1p": {1 << 2, 16}, "false && b": {}, "true || bid > p": {}, "1 < 2 ? b : has ask": {0, 16}, "1 > 2 ? b : has ask": {1 << 2, 0}, "(true ? bid : ask) > (false ? p : last)": {1<<1 | 1<<3, 0},
	} {
		s := full(rule(expr(t, text), submit("o", reg("d"), field(6), field(3)), set("t", field(5)), set("i", reg("i"))))
		g := tableOf(t, s).States[0][0]
		if g.Fields != want.fields || g.Regs != want.regs {
			t.Errorf("%q reads %b, %b; want %b, %b", text, g.Fields, g.Regs, want.fields, want.regs)
		}
	}
}

// Each of as many registers as there may be, the last of them.
func TestEachRegisterIsRead(t *testing.T) {
	s := smallest()
	for k := range 12 {
		s.Regs = append(s.Regs, api.Reg{Name: "r" + strconv.Itoa(k), Type: tBool, Init: falsely()})
	}
	all := falsely()
	for k := range 12 {
		name := "r" + strconv.Itoa(k)
		s.States[0].Rules = []api.Rule{rule(reg(name), set(name, reg("r0")))}
		expectTable(t, s, api.Table{Name: "s", Regs: make([]int64, 12), Code: code("reg " + strconv.Itoa(k) + ", reg 0"), States: [][]api.Guard{{
			{When: span(0, 1), Regs: 1 << k, Rows: []api.Row{{Kind: api.DoSet, Index: k, Value: span(1, 2)}}},
		}}})
		all = binary(api.OperOr, reg(name), all)
	}
	s.States[0].Rules = []api.Rule{rule(all, halt())}
	if g := tableOf(t, s).States[0][0]; g.Regs != 0xfff || g.Fields != 0 {
		t.Errorf("%b, %b", g.Regs, g.Fields)
	}
}

// Each kind of thing done: its slot, register, state; its spans, and noughts where it has none.
func TestRows(t *testing.T) {
	s := full(rule(truly(),
		submit("o", buy(), lots(), price()), submit("u", reg("d"), reg("q"), reg("p")), submit("", buy(), lots(), price()),
		market("o", buy(), lots()), market("u", reg("d"), expr(t, "q + q")), market("", buy(), lots()),
		set("i", num(1)), halt(),
	), rule(truly(),
		amend("o", lots(), price()), amend("u", expr(t, "q - 1q"), expr(t, "p - 1p")), cancel("o"), cancel("u"),
		set("d", buy()), set("p", expr(t, "-p")), set("b", expr(t, "b && b")), goTo("z"),
	), rule(truly(), goTo("a")))
	want := [][]api.Row{{
		{Kind: api.DoSubmit, Order: api.Limit, Index: 1, Side: span(1, 2), Qty: span(2, 3), Price: span(3, 4)},
		{Kind: api.DoSubmit, Order: api.Limit, Index: 2, Side: span(4, 5), Qty: span(5, 6), Price: span(6, 7)},
		{Kind: api.DoSubmit, Order: api.Limit, Side: span(7, 8), Qty: span(8, 9), Price: span(9, 10)},
		{Kind: api.DoSubmit, Order: api.Market, Index: 1, Side: span(10, 11), Qty: span(11, 12)},
		{Kind: api.DoSubmit, Order: api.Market, Index: 2, Side: span(12, 13), Qty: span(13, 16)},
		{Kind: api.DoSubmit, Order: api.Market, Side: span(16, 17), Qty: span(17, 18)},
		{Kind: api.DoSet, Index: 0, Value: span(18, 19)},
		{Kind: api.DoHalt},
	}, {
		{Kind: api.DoAmend, Index: 1, Qty: span(20, 21), Price: span(21, 22)},
		{Kind: api.DoAmend, Index: 2, Qty: span(22, 25), Price: span(25, 28)},
		{Kind: api.DoCancel, Index: 1},
		{Kind: api.DoCancel, Index: 2},
		{Kind: api.DoSet, Index: 5, Value: span(28, 29)},
		{Kind: api.DoSet, Index: 2, Value: span(29, 31)},
		{Kind: api.DoSet, Index: 4, Value: span(31, 34)},
		{Kind: api.DoGoto, Index: 1},
	}, {{Kind: api.DoGoto, Index: 0}}}
	x := tableOf(t, s)
	for k, g := range x.States[0] {
		if !slices.Equal(g.Rows, want[k]) {
			t.Errorf("the rows of %d are %+v; want %+v", k, g.Rows, want[k])
		}
	}
	if whens := []api.Span{x.States[0][0].When, x.States[0][1].When, x.States[0][2].When}; !slices.Equal(whens, []api.Span{span(0, 1), span(19, 20), span(34, 35)}) {
		t.Error(whens)
	}
	expectTable(t, s, modelTable(s))
}

// Each Order of a submit, with and without a slot.
func TestOrdersOfSubmits(t *testing.T) {
	for order := api.Limit; order <= api.Post; order++ {
		for index, name := range []string{"", "o", "u"} {
			d := submit(name, buy(), lots(), price())
			d.Order = order
			want := api.Row{Kind: api.DoSubmit, Order: order, Index: index, Side: span(1, 2), Qty: span(2, 3), Price: span(3, 4)}
			if order == api.Market {
				d.Price, want.Price = api.Node{}, api.Span{}
			}
			if x := tableOf(t, doing(d)); x.States[0][0].Rows[0] != want {
				t.Errorf("%+v; want %+v", x.States[0][0].Rows[0], want)
			}
		}
	}
}

// Each slot, each state by its number; a name that several kinds of things have is each time the one of its kind.
func TestNumbersOfNames(t *testing.T) {
	s := smallest()
	names := []string{"a", "b", "c", "d", "e", "f", "g", "h", "k", "l", "m", "n"}
	s.States = nil
	for k, name := range names {
		s.Regs = append(s.Regs, api.Reg{Name: names[(k+5)%12], Type: tInt, Init: num(0)})
		s.States = append(s.States, api.State{Name: names[(k+7)%12]})
		if k < 4 {
			s.Slots = append(s.Slots, api.Slot{Name: name})
		}
	}
	for k, name := range names {
		dos := []api.Do{set(name, reg(name)), goTo(name)}
		want := []api.Row{{Kind: api.DoSet, Index: (k + 7) % 12, Value: span(1, 2)}, {Kind: api.DoGoto, Index: (k + 5) % 12}}
		if k < 4 {
			dos = append([]api.Do{cancel(name)}, dos...)
			want = append([]api.Row{{Kind: api.DoCancel, Index: k + 1}}, want...)
		}
		s.States[3].Rules = []api.Rule{rule(truly(), dos...)}
		x := tableOf(t, s)
		if !slices.Equal(x.States[3][0].Rows, want) || x.Code[1] != (api.Instr{Kind: api.InstrReg, A: (k + 7) % 12}) {
			t.Errorf("%+v; want %+v; %s", x.States[3][0].Rows, want, written(x.Code))
		}
	}
}

// Places change nothing of a table, nor do names but the strategy's own.
func TestWhatChangesNothingOfATable(t *testing.T) {
	for _, s := range fitting(900000, 300) {
		x := tableOf(t, s)
		expectTable(t, numbered(s), x)
		other := copied(s)
		leaves(elem(&other), "", func(name string, v value) {
			if name == "Name" && v.String() != "" {
				v.SetString("x" + v.String()[:min(15, v.Len())])
			}
		})
		x.Name = other.Name
		expectTable(t, other, x)
	}
}
