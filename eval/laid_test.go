package eval_test

import (
	"slices"
	"strconv"
	"strings"

	"tripwire/api"
	"tripwire/table"
)

// everyFault are those of spans.
var everyFault = []api.Errno{over, zero, absent}

// faulty is a text that lays nothing, by this fault, with how many steps; the third one where nothing is bid.
func faulty(no api.Errno) (string, int) {
	switch no {
	case over:
		return "num 9223372036854775807, num 1, add", 3
	case zero:
		return "num 1, num 0, div", 3
	}
	return "field 1", 1
}

// kindNames and operNames are instructions as these tests write them.
var (
	kindNames = []string{"", "const", "field", "has", "reg", "oper", "and", "or", "else", "jump"}
	operNames = []string{"", "neg", "not", "abs", "min", "max", "add", "sub", "mul", "div", "mod", "eq", "ne", "lt", "le", "gt", "ge"}
)

// number is the kind of an instruction that has not been laid yet: A is a number that will stand among the constants.
const number api.InstrKind = 99

// code is instructions out of a text: kinds, and what A is of each; Opers by their names; num of any number.
func code(text string) []api.Instr {
	if text == "" {
		return nil
	}
	var all []api.Instr
	for _, x := range strings.Split(text, ", ") {
		name, number, _ := strings.Cut(x, " ")
		all = append(all, instr(name, number))
	}
	return all
}

func instr(name, a string) api.Instr {
	if o := slices.Index(operNames, name); o > 0 && a == "" {
		return api.Instr{Kind: api.InstrOper, A: o}
	}
	n, err := strconv.Atoi(a)
	if err != nil {
		panic(name + " " + a)
	}
	if name == "num" {
		return api.Instr{Kind: number, A: n}
	}
	kind := slices.Index(kindNames, name)
	if kind <= 0 {
		panic(name)
	}
	return api.Instr{Kind: api.InstrKind(kind), A: n}
}

func jumps(k api.InstrKind) bool { return k >= api.InstrAnd && k <= api.InstrJump }

func span(from, to int) api.Span { return api.Span{From: from, To: to} }

// rule is a guard ahead of its being laid: instructions whose jumps are told from their own beginning on.
type rule struct {
	when []api.Instr
	rows []thing
}

// thing is a row likewise: the instructions of Side, Qty, Price, Value.
type thing struct {
	row  api.Row
	code [4][]api.Instr
}

func when(text string, rows ...thing) rule { return rule{code(text), rows} }

func submit(order api.Kind, slot int, side, qty, price string) thing {
	return thing{api.Row{Kind: api.DoSubmit, Order: order, Index: slot}, [4][]api.Instr{code(side), code(qty), code(price), nil}}
}

func market(slot int, side, qty string) thing { return submit(api.Market, slot, side, qty, "") }

func amend(slot int, qty, price string) thing {
	return thing{api.Row{Kind: api.DoAmend, Index: slot}, [4][]api.Instr{nil, code(qty), code(price), nil}}
}

func cancel(slot int) thing { return thing{row: api.Row{Kind: api.DoCancel, Index: slot}} }

func set(reg int, value string) thing {
	return thing{api.Row{Kind: api.DoSet, Index: reg}, [4][]api.Instr{nil, nil, nil, code(value)}}
}

func goTo(state int) thing { return thing{row: api.Row{Kind: api.DoGoto, Index: state}} }

func halt() thing { return thing{row: api.Row{Kind: api.DoHalt}} }

// laid is a table with three registers, two slots and these states, whose instructions are laid one behind the other.
func laid(states ...[]rule) api.Table {
	x := api.Table{Name: "s", Regs: []int64{5, -6, 7}, Slots: 2}
	for _, rules := range states {
		var guards []api.Guard
		for _, r := range rules {
			g := api.Guard{When: lay(&x, r.when)}
			g.Fields, g.Regs = table.Reads(x, g.When)
			for _, d := range r.rows {
				d.row.Side, d.row.Qty, d.row.Price, d.row.Value = lay(&x, d.code[0]), lay(&x, d.code[1]), lay(&x, d.code[2]), lay(&x, d.code[3])
				g.Rows = append(g.Rows, d.row)
			}
			guards = append(guards, g)
		}
		x.States = append(x.States, guards)
	}
	return x
}

// lay puts instructions behind those of a table; of none the span is noughts.
func lay(x *api.Table, l []api.Instr) api.Span {
	if len(l) == 0 {
		return api.Span{}
	}
	from := len(x.Code)
	for _, in := range l {
		switch {
		case jumps(in.Kind):
			in.A += from
		case in.Kind == number:
			in = api.Instr{Kind: api.InstrConst, A: place(x, int64(in.A))}
		}
		x.Code = append(x.Code, in)
	}
	return span(from, len(x.Code))
}

// place is where a number stands among a table's constants.
func place(x *api.Table, n int64) int {
	at := slices.Index(x.Consts, n)
	if at < 0 {
		at = len(x.Consts)
		x.Consts = append(x.Consts, n)
	}
	return at
}

// asking is a table of one guard with these instructions, behind which it halts.
func asking(text string) api.Table { return laid([]rule{when(text, halt())}) }

// doing is a table of one guard, which holds in one step, with these rows; and a second state, which has none.
func doing(rows ...thing) api.Table { return laid([]rule{when("num 1", rows...)}, nil) }

// exampleU is chapter 18's.
func exampleU() api.Table {
	return api.Table{
		Name: "s", Regs: []int64{-2}, Slots: 1, Consts: []int64{3, 1, 2}, Code: code("has 1, and 5, reg 0, const 0, lt, const 1, const 2, field 1, reg 0, const 1, add"),
		States: [][]api.Guard{{{When: span(0, 5), Fields: 2, Regs: 1, Rows: []api.Row{
			{Kind: api.DoSubmit, Order: api.Limit, Index: 1, Side: span(5, 6), Qty: span(6, 7), Price: span(7, 8)},
			{Kind: api.DoSet, Value: span(8, 11)},
			{Kind: api.DoGoto, Index: 1},
		}}}, nil},
	}
}

// smallest has nothing that a table need not have.
func smallest() api.Table { return api.Table{Name: "s", States: make([][]api.Guard, 1)} }
