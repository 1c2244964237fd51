package table_test

import (
	"fmt"
	"math"
	"reflect"
	"slices"
	"strconv"
	"strings"
	"testing"

	"tripwire/api"
	"tripwire/table"
)

const (
	wrongForm  = api.ErrTableForm
	wrongCode  = api.ErrTableCode
	wrongStack = api.ErrTableStack
	wrongMask  = api.ErrTableMask
	wrongBytes = api.ErrTableBytes

	least, greatest = math.MinInt64, math.MaxInt64

	// longName is as long as a name may be.
	longName = "abcdefghijklmnop"
)

// kindNames are the instructions' kinds as these tests write them.
var kindNames = []string{"", "const", "field", "has", "reg", "oper", "and", "or", "else", "jump"}

// code is instructions out of a text: kinds, and what A is of each.
func code(text string) []api.Instr {
	var all []api.Instr
	for _, x := range strings.Split(text, ", ") {
		name, number, _ := strings.Cut(x, " ")
		a, err := strconv.Atoi(number)
		if kind := slices.Index(kindNames, name); err == nil && kind > 0 {
			all = append(all, api.Instr{Kind: api.InstrKind(kind), A: a})
		} else if text != "" {
			panic(text)
		}
	}
	return all
}

func jumps(k api.InstrKind) bool { return k >= api.InstrAnd && k <= api.InstrJump }

func span(from, to int) api.Span { return api.Span{From: from, To: to} }

// rule is a guard ahead of its being laid: instructions whose jumps are told from their own beginning on.
type rule struct {
	when []api.Instr
	rows []thing
}

// thing is a row likewise: the instructions of Side, Qty, Price, Value.
type thing struct {
	row  api.Row
	code [4][]api.Instr
}

func when(text string, rows ...thing) rule { return rule{code(text), rows} }

func submit(order api.Kind, slot int, side, qty, price string) thing {
	return thing{api.Row{Kind: api.DoSubmit, Order: order, Index: slot}, [4][]api.Instr{code(side), code(qty), code(price), nil}}
}

func amend(slot int, qty, price string) thing {
	return thing{api.Row{Kind: api.DoAmend, Index: slot}, [4][]api.Instr{nil, code(qty), code(price), nil}}
}

func cancel(slot int) thing { return thing{row: api.Row{Kind: api.DoCancel, Index: slot}} }

func set(reg int, value string) thing {
	return thing{api.Row{Kind: api.DoSet, Index: reg}, [4][]api.Instr{nil, nil, nil, code(value)}}
}

func goTo(state int) thing { return thing{row: api.Row{Kind: api.DoGoto, Index: state}} }

func halt() thing { return thing{row: api.Row{Kind: api.DoHalt}} }

// laid is a table with three registers, two slots, three constants and these states, whose instructions are laid one behind the other.
func laid(states ...[]rule) api.Table {
	x := api.Table{Name: "s", Regs: []int64{5, -6, 7}, Slots: 2, Consts: []int64{1, -2, 300}}
	for _, rules := range states {
		var guards []api.Guard
		for _, r := range rules {
			g := api.Guard{When: lay(&x, r.when)}
			g.Fields, g.Regs = modelReads(api.Table{Code: r.when}, span(0, len(r.when)))
			for _, d := range r.rows {
				d.row.Side, d.row.Qty, d.row.Price, d.row.Value = lay(&x, d.code[0]), lay(&x, d.code[1]), lay(&x, d.code[2]), lay(&x, d.code[3])
				g.Rows = append(g.Rows, d.row)
			}
			guards = append(guards, g)
		}
		x.States = append(x.States, guards)
	}
	return x
}

// lay puts instructions behind those of a table; of none the span is noughts.
func lay(x *api.Table, l []api.Instr) api.Span {
	if len(l) == 0 {
		return api.Span{}
	}
	from := len(x.Code)
	for _, in := range l {
		if jumps(in.Kind) {
			in.A += from
		}
		x.Code = append(x.Code, in)
	}
	return span(from, len(x.Code))
}

// asking is a table of one guard with these instructions, behind which it halts.
func asking(text string) api.Table { return laid([]rule{when(text, halt())}) }

// exampleT is the chapter's.
func exampleT() api.Table {
	return api.Table{
		Name: "s", Consts: []int64{1}, Code: code("has 1, and 4, const 0, oper 2"),
		States: [][]api.Guard{{{When: span(0, 4), Fields: 2, Rows: []api.Row{{Kind: api.DoHalt}}}}},
	}
}

// smallest has nothing that a table need not have.
func smallest() api.Table { return api.Table{Name: "s", States: make([][]api.Guard, 1)} }

// whole has each kind of row, of order and of instruction, in three states, of which one has no guards.
func whole() api.Table {
	return laid(
		[]rule{
			when("has 1, and 5, reg 0, const 2, oper 13", submit(api.Limit, 1, "const 0", "const 2, oper 3", "field 1, const 1, oper 7"), set(2, "reg 2, const 0, oper 6"), goTo(2)),
			when("reg 1, else 4, has 3, jump 6, field 4, oper 1", submit(api.Market, 0, "reg 2", "field 6", ""), amend(2, "const 0", "has 2, or 3, field 2"), cancel(1), halt()),
		},
		nil,
		[]rule{when("field 5", submit(api.Post, 2, "const 0", "const 0", "const 0"), submit(api.Now, 0, "reg 0", "reg 1", "reg 2"), submit(api.All, 0, "reg 0", "reg 1", "reg 2"), cancel(2))},
	)
}

// change is a copy of a table that something was done to.
func change(x api.Table, turn func(x *api.Table)) api.Table {
	x = copied(x)
	turn(&x)
	return x
}

// times is a list with the same thing so many times.
func times[T any](n int, x T) []T {
	var l []T
	for range n {
		l = append(l, x)
	}
	return l
}

// short is a thing as a fault is told.
func short(x any) string {
	s := fmt.Sprintf("%+v", x)
	if b, is := x.(string); is {
		s = fmt.Sprintf("%q", b)
	}
	if len(s) > 600 {
		return s[:600] + ".."
	}
	return s
}

// expectCheck tells whether Check, and what stands on it, says this of a table; with an error the other results are noughts.
func expectCheck(t *testing.T, x api.Table, want api.Errno) {
	t.Helper()
	if no := table.Check(x); no != want {
		t.Errorf("Check(%s) is %d; want %d", short(x), no, want)
	}
	most, no := table.Bound(x)
	if no != want || no != api.OK && most != (api.Cost{}) {
		t.Errorf("Bound(%s) is %v, %d; want %d", short(x), most, no, want)
	}
	b, no := table.Encode(x)
	if no != want || no != api.OK && b != "" {
		t.Errorf("Encode(%s) is %s, %d; want %d", short(x), short(b), no, want)
	}
}

func expectBound(t *testing.T, x api.Table, steps, acts int) {
	t.Helper()
	if most, no := table.Bound(x); most != (api.Cost{Steps: steps, Acts: acts}) || no != api.OK {
		t.Errorf("Bound(%s) is %v, %d; want %d, %d", short(x), most, no, steps, acts)
	}
}

func expectReads(t *testing.T, x api.Table, of api.Span, fields api.Mask, regs uint16) {
	t.Helper()
	if f, r := table.Reads(x, of); f != fields || r != regs {
		t.Errorf("Reads(%s, %v) is %b, %b; want %b, %b", short(x), of, f, r, fields, regs)
	}
}

// expectBytes tells whether these are a table's bytes, and it theirs.
func expectBytes(t *testing.T, x api.Table, want string) {
	t.Helper()
	if b, no := table.Encode(x); b != want || no != api.OK {
		t.Errorf("Encode(%s) is %s, %d; want %s", short(x), short(b), no, short(want))
	}
	if y, no := table.Decode(want); !sameTable(y, x) || no != api.OK {
		t.Errorf("Decode(%s) is %s, %d; want %s", short(want), short(y), no, short(x))
	}
}

// expectNoTable tells whether bytes are refused, with noughts beside the error.
func expectNoTable(t *testing.T, b string) {
	t.Helper()
	if x, no := table.Decode(b); no != wrongBytes || !reflect.DeepEqual(x, api.Table{}) {
		t.Errorf("Decode(%s) is %s, %d; want %d", short(b), short(x), no, wrongBytes)
	}
}

// sameTable tells whether two tables are the same; a list that is nil is an empty one.
func sameTable(a, b api.Table) bool {
	sameState := func(a, b []api.Guard) bool { return slices.EqualFunc(a, b, sameGuard) }
	return a.Name == b.Name && slices.Equal(a.Regs, b.Regs) && a.Slots == b.Slots && slices.Equal(a.Consts, b.Consts) &&
		slices.Equal(a.Code, b.Code) && slices.EqualFunc(a.States, b.States, sameState)
}

func sameGuard(a, b api.Guard) bool {
	return a.When == b.When && a.Fields == b.Fields && a.Regs == b.Regs && slices.Equal(a.Rows, b.Rows)
}

// copied is a thing with memory of its own: behind each of its lists there is room in which a wrong part stands.
func copied[T any](x T) T {
	return deepCopy(reflect.ValueOf(x)).Interface().(T)
}

func deepCopy(v reflect.Value) reflect.Value {
	out := reflect.New(v.Type()).Elem()
	switch v.Kind() {
	case reflect.Struct:
		for i := range v.NumField() {
			out.Field(i).Set(deepCopy(v.Field(i)))
		}
	case reflect.Slice:
		if v.IsNil() {
			break
		}
		room := reflect.MakeSlice(v.Type(), v.Len()+1, v.Len()+1)
		for i := range v.Len() {
			room.Index(i).Set(deepCopy(v.Index(i)))
		}
		room.Index(v.Len()).Set(behind(v.Type().Elem()))
		out.Set(room.Slice(0, v.Len()))
	default:
		out.Set(v)
	}
	return out
}

// behind is the wrong part that stands behind a list.
func behind(t reflect.Type) reflect.Value {
	out := reflect.New(t).Elem()
	spoilLeaf := func(v reflect.Value) {
		if v.CanInt() {
			v.SetInt(77)
		} else if v.CanUint() {
			v.SetUint(77)
		}
	}
	switch t.Kind() {
	case reflect.Slice:
		out.Set(reflect.MakeSlice(t, 1, 1))
		out.Index(0).Set(behind(t.Elem()))
	default:
		leaves(out, "", func(name string, v reflect.Value) { spoilLeaf(v) })
	}
	return out
}

// leaves hands each field of a thing that is no struct and no list, in order, and may change it: of a copy.
func leaves(v reflect.Value, name string, see func(name string, v reflect.Value)) {
	switch v.Kind() {
	case reflect.Struct:
		for i := range v.NumField() {
			leaves(v.Field(i), v.Type().Field(i).Name, see)
		}
	case reflect.Slice:
		for i := range v.Len() {
			leaves(v.Index(i), name, see)
		}
	default:
		see(name, v)
	}
}

// lists hands each list of a thing, and may change it: of a copy.
func lists(v reflect.Value, see func(v reflect.Value)) {
	switch v.Kind() {
	case reflect.Struct:
		for i := range v.NumField() {
			lists(v.Field(i), see)
		}
	case reflect.Slice:
		see(v)
		for i := range v.Len() {
			lists(v.Index(i), see)
		}
	}
}

// elem is what a pointer points to, as it is gone through above.
func elem(p any) reflect.Value { return reflect.ValueOf(p).Elem() }

// draw answers numbers that look drawn, and are the same each time.
func draw(from uint64) func(below int) int {
	return func(below int) int {
		from += 0x9e3779b97f4a7c15
		z := from
		z = (z ^ z>>30) * 0xbf58476d1ce4e5b9
		z = (z ^ z>>27) * 0x94d049bb133111eb
		return int((z ^ z>>31) % uint64(below))
	}
}

// expectOnly is expectCheck without what stands on Check.
func expectOnly(t *testing.T, x api.Table, want api.Errno) {
	t.Helper()
	if no := table.Check(x); no != want {
		t.Errorf("Check(%s) is %d; want %d", short(x), no, want)
	}
}
