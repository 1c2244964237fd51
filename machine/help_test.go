package machine_test

import (
	"fmt"
	"math"
	"reflect"
	"slices"
	"strconv"
	"strings"
	"testing"

	"tripwire/api"
	"tripwire/machine"
	"tripwire/table"
)

const (
	over   = api.ErrOver
	zero   = api.ErrZero
	absent = api.ErrMeanAbsent
	noSide = api.ErrMachineSide

	noMode    = api.ErrMachineMode
	snapRange = api.ErrSnapRange
	noSpan    = api.ErrArg

	wrongForm  = api.ErrTableForm
	wrongCode  = api.ErrTableCode
	wrongStack = api.ErrTableStack
	wrongMask  = api.ErrTableMask

	least, greatest = math.MinInt64, math.MaxInt64
)

// everyFault are those of spans.
var everyFault = []api.Errno{over, zero, absent}

// faulty is a text that lays nothing, by this fault, with how many steps; the third one where nothing is bid.
func faulty(no api.Errno) (string, int) {
	switch no {
	case over:
		return "num 9223372036854775807, num 1, add", 3
	case zero:
		return "num 1, num 0, div", 3
	}
	return "field 1", 1
}

// kindNames and operNames are instructions as these tests write them.
var (
	kindNames = []string{"", "const", "field", "has", "reg", "oper", "and", "or", "else", "jump"}
	operNames = []string{"", "neg", "not", "abs", "min", "max", "add", "sub", "mul", "div", "mod", "eq", "ne", "lt", "le", "gt", "ge"}
)

// number is the kind of an instruction that has not been laid yet: A is a number that will stand among the constants.
const number api.InstrKind = 99

// code is instructions out of a text: kinds, and what A is of each; Opers by their names; num of any number.
func code(text string) []api.Instr {
	if text == "" {
		return nil
	}
	var all []api.Instr
	for _, x := range strings.Split(text, ", ") {
		name, number, _ := strings.Cut(x, " ")
		all = append(all, instr(name, number))
	}
	return all
}

func instr(name, a string) api.Instr {
	if o := slices.Index(operNames, name); o > 0 && a == "" {
		return api.Instr{Kind: api.InstrOper, A: o}
	}
	n, err := strconv.Atoi(a)
	if err != nil {
		panic(name + " " + a)
	}
	if name == "num" {
		return api.Instr{Kind: number, A: n}
	}
	kind := slices.Index(kindNames, name)
	if kind <= 0 {
		panic(name)
	}
	return api.Instr{Kind: api.InstrKind(kind), A: n}
}

func num(n int64) string { return "num " + strconv.FormatInt(n, 10) }

// row is a text of several others.
func row(l ...string) string { return strings.Join(l, ", ") }

func jumps(k api.InstrKind) bool { return k >= api.InstrAnd && k <= api.InstrJump }

func span(from, to int) api.Span { return api.Span{From: from, To: to} }

// rule is a guard ahead of its being laid: instructions whose jumps are told from their own beginning on.
type rule struct {
	when []api.Instr
	rows []thing
}

// thing is a row likewise: the instructions of Side, Qty, Price, Value.
type thing struct {
	row  api.Row
	code [4][]api.Instr
}

func when(text string, rows ...thing) rule { return rule{code(text), rows} }

func submit(order api.Kind, slot int, side, qty, price string) thing {
	return thing{api.Row{Kind: api.DoSubmit, Order: order, Index: slot}, [4][]api.Instr{code(side), code(qty), code(price), nil}}
}

func market(slot int, side, qty string) thing { return submit(api.Market, slot, side, qty, "") }

func amend(slot int, qty, price string) thing {
	return thing{api.Row{Kind: api.DoAmend, Index: slot}, [4][]api.Instr{nil, code(qty), code(price), nil}}
}

func cancel(slot int) thing { return thing{row: api.Row{Kind: api.DoCancel, Index: slot}} }

func set(reg int, value string) thing {
	return thing{api.Row{Kind: api.DoSet, Index: reg}, [4][]api.Instr{nil, nil, nil, code(value)}}
}

func goTo(state int) thing { return thing{row: api.Row{Kind: api.DoGoto, Index: state}} }

func halt() thing { return thing{row: api.Row{Kind: api.DoHalt}} }

// laid is a table with three registers, two slots and these states, whose instructions are laid one behind the other.
func laid(states ...[]rule) api.Table {
	x := api.Table{Name: "s", Regs: []int64{5, -6, 7}, Slots: 2}
	for _, rules := range states {
		var guards []api.Guard
		for _, r := range rules {
			g := api.Guard{When: lay(&x, r.when)}
			g.Fields, g.Regs = table.Reads(x, g.When)
			for _, d := range r.rows {
				d.row.Side, d.row.Qty, d.row.Price, d.row.Value = lay(&x, d.code[0]), lay(&x, d.code[1]), lay(&x, d.code[2]), lay(&x, d.code[3])
				g.Rows = append(g.Rows, d.row)
			}
			guards = append(guards, g)
		}
		x.States = append(x.States, guards)
	}
	return x
}

// lay puts instructions behind those of a table; of none the span is noughts.
func lay(x *api.Table, l []api.Instr) api.Span {
	if len(l) == 0 {
		return api.Span{}
	}
	from := len(x.Code)
	for _, in := range l {
		switch {
		case jumps(in.Kind):
			in.A += from
		case in.Kind == number:
			in = api.Instr{Kind: api.InstrConst, A: place(x, int64(in.A))}
		}
		x.Code = append(x.Code, in)
	}
	return span(from, len(x.Code))
}

// place is where a number stands among a table's constants.
func place(x *api.Table, n int64) int {
	at := slices.Index(x.Consts, n)
	if at < 0 {
		at = len(x.Consts)
		x.Consts = append(x.Consts, n)
	}
	return at
}

// asking is a table of one guard with these instructions, behind which it halts.
func asking(text string) api.Table { return laid([]rule{when(text, halt())}) }

// doing is a table of one guard, which holds in one step, with these rows; and a second state, which has none.
func doing(rows ...thing) api.Table { return laid([]rule{when("num 1", rows...)}, nil) }

// exampleT is chapter 19's, exampleU chapter 18's.
func exampleT() api.Table {
	return api.Table{
		Name: "s", Consts: []int64{1}, Code: code("has 1, and 4, const 0, not"),
		States: [][]api.Guard{{{When: span(0, 4), Fields: 2, Rows: []api.Row{{Kind: api.DoHalt}}}}},
	}
}

func exampleU() api.Table {
	return api.Table{
		Name: "s", Regs: []int64{-2}, Slots: 1, Consts: []int64{3, 1, 2}, Code: code("has 1, and 5, reg 0, const 0, lt, const 1, const 2, field 1, reg 0, const 1, add"),
		States: [][]api.Guard{{{When: span(0, 5), Fields: 2, Regs: 1, Rows: []api.Row{
			{Kind: api.DoSubmit, Order: api.Limit, Index: 1, Side: span(5, 6), Qty: span(6, 7), Price: span(7, 8)},
			{Kind: api.DoSet, Value: span(8, 11)},
			{Kind: api.DoGoto, Index: 1},
		}}}, nil},
	}
}

// smallest has nothing that a table need not have.
func smallest() api.Table { return api.Table{Name: "s", States: make([][]api.Guard, 1)} }

// mode is a state and registers; begun is laid's as it begins.
func mode(state int, regs ...int64) api.Mode { return api.Mode{State: state, Regs: regs} }

func begun() api.Mode { return mode(0, 5, -6, 7) }

// seen is a snapshot in which each field is another number, none of them 0.
func seen() api.Snap {
	return api.Snap{Bid: 11, Ask: 13, Last: 12, Volume: 1001, Now: 77, Open: 55}
}

// edges are numbers about nought, about the ends of 64 bits, and about their roots.
func edges() []int64 {
	return []int64{least, least + 1, least / 2, -3037000500, -1000000007, -256, -7, -3, -2, -1, 0, 1, 2, 3, 7, 256, 1000000007, 3037000499, 3037000500, greatest / 2, greatest/2 + 1, greatest - 1, greatest}
}

// times is a list with the same thing so many times.
func times[T any](n int, x T) []T {
	var l []T
	for range n {
		l = append(l, x)
	}
	return l
}

// change is a copy of a table that something was done to.
func change(x api.Table, turn func(x *api.Table)) api.Table {
	x = copied(x)
	turn(&x)
	return x
}

// short is a thing as a fault is told.
func short(x any) string {
	s := fmt.Sprintf("%+v", x)
	if len(s) > 600 {
		return s[:600] + ".."
	}
	return s
}

// sameMode tells whether two modes are one; a list that is nil is an empty one.
func sameMode(a, b api.Mode) bool { return a.State == b.State && slices.Equal(a.Regs, b.Regs) }

// sameFiring tells whether two firings are one.
func sameFiring(a, b api.Firing) bool {
	actions := slices.Equal(a.Actions, b.Actions)
	a.Actions, b.Actions = nil, nil
	return actions && reflect.DeepEqual(a, b)
}

// What a turn may come to, in how many steps.

func fires(steps, rule int, l ...api.Action) api.Firing {
	return api.Firing{Rule: rule, Actions: l, Status: api.Running, Steps: steps}
}

func halts(steps, rule int, l ...api.Action) api.Firing {
	return api.Firing{Rule: rule, Actions: l, Status: api.Halted, Steps: steps}
}

func isRefused(steps, rule int) api.Firing {
	return api.Firing{Rule: rule, Refused: true, Status: api.Running, Steps: steps}
}

func nothing(steps int) api.Firing { return api.Firing{Rule: -1, Status: api.Running, Steps: steps} }

func faults(steps int, code api.Errno) api.Firing {
	return api.Firing{Rule: -1, Status: api.Faulted, Code: code, Steps: steps}
}

// result is a value and its steps, or a fault and its steps.
type result struct {
	n     int64
	steps int
	no    api.Errno
}

// expectValue tells whether a span comes to this.
func expectValue(t *testing.T, x api.Table, s api.Span, m api.Mode, w api.Snap, want result) {
	t.Helper()
	if n, steps, no := machine.Value(x, s, m, w); (result{n, steps, no}) != want {
		t.Errorf("Value(%s, %v) with %v, %v is %d, %d, %d; want %v", short(x), s, m, w, n, steps, no, want)
	}
}

// expectNoValue tells whether a call is refused by this error, with noughts beside it.
func expectNoValue(t *testing.T, x api.Table, s api.Span, m api.Mode, w api.Snap, want api.Errno) {
	t.Helper()
	expectValue(t, x, s, m, w, result{no: want})
}

// expectTurn tells whether a turn comes to this, with this mode behind it.
func expectTurn(t *testing.T, x api.Table, m api.Mode, w api.Snap, granted bool, want api.Firing, behind api.Mode) {
	t.Helper()
	f, next, no := machine.Turn(x, m, w, granted)
	if !sameFiring(f, want) || !sameMode(next, behind) || no != api.OK {
		t.Errorf("Turn(%s) with %v, %v, %t is %+v, %v, %d; want %+v, %v", short(x), m, w, granted, f, next, no, want, behind)
	}
}

// expectFires tells whether a turn comes to this if it is granted, and if not: then what has an action is refused, in as many steps, and the mode stays.
func expectFires(t *testing.T, x api.Table, m api.Mode, w api.Snap, want api.Firing, behind api.Mode) {
	t.Helper()
	expectTurn(t, x, m, w, true, want, behind)
	if len(want.Actions) > 0 {
		want, behind = isRefused(want.Steps, want.Rule), m
	}
	expectTurn(t, x, m, w, false, want, behind)
}

// expectStays tells whether a turn comes to this, granted or not, and the mode stays.
func expectStays(t *testing.T, x api.Table, m api.Mode, w api.Snap, want api.Firing) {
	t.Helper()
	expectTurn(t, x, m, w, true, want, m)
	expectTurn(t, x, m, w, false, want, m)
}

// expectNoTurn tells whether a turn is refused by this error, with noughts beside it.
func expectNoTurn(t *testing.T, x api.Table, m api.Mode, w api.Snap, want api.Errno) {
	t.Helper()
	for _, granted := range []bool{true, false} {
		f, next, no := machine.Turn(x, m, w, granted)
		if !sameFiring(f, api.Firing{}) || !sameMode(next, api.Mode{}) || no != want {
			t.Errorf("Turn(%s) with %v, %v, %t is %+v, %v, %d; want the error %d", short(x), m, w, granted, f, next, no, want)
		}
	}
}

// expectStart tells whether a table begins with these registers.
func expectStart(t *testing.T, x api.Table, want ...int64) {
	t.Helper()
	if m, no := machine.Start(x); !sameMode(m, mode(0, want...)) || no != api.OK {
		t.Errorf("Start(%s) is %v, %d; want %v", short(x), m, no, want)
	}
}

// expectNoStart tells whether a table does not begin, for this error.
func expectNoStart(t *testing.T, x api.Table, want api.Errno) {
	t.Helper()
	if m, no := machine.Start(x); !sameMode(m, api.Mode{}) || no != want {
		t.Errorf("Start(%s) is %v, %d; want the error %d", short(x), m, no, want)
	}
}

// expectRuns tells whether instructions come to this wherever they stand: as a guard, which then holds or does not, and as each of the spans of rows, behind others.
func expectRuns(t *testing.T, text string, m api.Mode, w api.Snap, want result) {
	t.Helper()
	x := laid(
		[]rule{when(text, halt()), when("num 0", submit(api.Post, 1, text, text, text), market(0, text, "num 1"), amend(2, text, text), set(1, text), goTo(1))},
		[]rule{when("num 0, not, not", halt()), when(text, set(0, text))},
	)
	if no := table.Check(x); no != api.OK {
		t.Fatalf("%q may not be: %d", text, no)
	}
	length := len(code(text))
	found := 0
	for _, s := range spansOf(x) {
		if s.To-s.From == length && slices.Equal(unlaid(x, s), code(text)) {
			expectValue(t, x, s, m, w, want)
			found++
		}
	}
	if found < 10 {
		t.Fatalf("%q was found %d times", text, found)
	}
	f := nothing(want.steps)
	switch {
	case want.no != api.OK:
		f = faults(want.steps, want.no)
	case want.n != 0:
		f = halts(want.steps, 0)
	}
	m.State = 0
	expectStays(t, asking(text), m, w, f)
}

// spansOf are all spans of a table.
func spansOf(x api.Table) []api.Span {
	var all []api.Span
	for _, guards := range x.States {
		for _, g := range guards {
			all = append(all, g.When)
			for _, r := range g.Rows {
				for _, s := range []api.Span{r.Side, r.Qty, r.Price, r.Value} {
					if s != (api.Span{}) {
						all = append(all, s)
					}
				}
			}
		}
	}
	return all
}

// unlaid is a span's instructions as they were ahead of their being laid.
func unlaid(x api.Table, s api.Span) []api.Instr {
	all := slices.Clone(x.Code[s.From:s.To])
	for i, in := range all {
		switch {
		case jumps(in.Kind):
			all[i].A -= s.From
		case in.Kind == api.InstrConst:
			all[i] = api.Instr{Kind: number, A: int(x.Consts[in.A])}
		}
	}
	return all
}

// copied is a thing with memory of its own: behind each of its lists there is room in which a wrong part stands.
func copied[T any](x T) T {
	return deepCopy(reflect.ValueOf(x)).Interface().(T)
}

func deepCopy(v reflect.Value) reflect.Value {
	out := reflect.New(v.Type()).Elem()
	switch v.Kind() {
	case reflect.Struct:
		for i := range v.NumField() {
			out.Field(i).Set(deepCopy(v.Field(i)))
		}
	case reflect.Slice:
		if v.IsNil() {
			break
		}
		room := reflect.MakeSlice(v.Type(), v.Len()+1, v.Len()+1)
		for i := range v.Len() {
			room.Index(i).Set(deepCopy(v.Index(i)))
		}
		room.Index(v.Len()).Set(behind(v.Type().Elem()))
		out.Set(room.Slice(0, v.Len()))
	default:
		out.Set(v)
	}
	return out
}

// behind is the wrong part that stands behind a list.
func behind(t reflect.Type) reflect.Value {
	out := reflect.New(t).Elem()
	if t.Kind() == reflect.Slice {
		out.Set(reflect.MakeSlice(t, 1, 1))
		out.Index(0).Set(behind(t.Elem()))
		return out
	}
	leaves(out, func(v reflect.Value) {
		if v.CanInt() {
			v.SetInt(77)
		} else if v.CanUint() {
			v.SetUint(77)
		}
	})
	return out
}

// leaves hands each field of a thing that is no struct and no list, in order, and may change it: of a copy.
func leaves(v reflect.Value, see func(v reflect.Value)) {
	switch v.Kind() {
	case reflect.Struct:
		for i := range v.NumField() {
			leaves(v.Field(i), see)
		}
	case reflect.Slice:
		for i := range v.Len() {
			leaves(v.Index(i), see)
		}
	default:
		see(v)
	}
}

// lists hands each list of a thing, and may change it: of a copy.
func lists(v reflect.Value, see func(v reflect.Value)) {
	switch v.Kind() {
	case reflect.Struct:
		for i := range v.NumField() {
			lists(v.Field(i), see)
		}
	case reflect.Slice:
		see(v)
		for i := range v.Len() {
			lists(v.Index(i), see)
		}
	}
}

// elem is what a pointer points to, as it is gone through above.
func elem(p any) reflect.Value { return reflect.ValueOf(p).Elem() }

// draw answers numbers that look drawn, and are the same each time.
func draw(from uint64) func(below int) int {
	return func(below int) int {
		from += 0x9e3779b97f4a7c15
		z := from
		z = (z ^ z>>30) * 0xbf58476d1ce4e5b9
		z = (z ^ z>>27) * 0x94d049bb133111eb
		return int((z ^ z>>31) % uint64(below))
	}
}
