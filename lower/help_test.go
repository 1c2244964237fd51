package lower_test

import (
	"errors"
	"fmt"
	"math"
	"reflect"
	"slices"
	"strconv"
	"strings"
	"testing"

	"tripwire/api"
	"tripwire/lower"
	"tripwire/parse"
	"tripwire/print"
)

const (
	over   = api.ErrOver
	zero   = api.ErrZero
	absent = api.ErrMeanAbsent

	tooLong = api.ErrLowerCode
	tooMuch = api.ErrCostMuch

	twice = api.ErrTypesTwice
	none  = api.ErrTypesNone
	fit   = api.ErrTypesFit
	last  = api.ErrTypesLast

	wrongForm = api.ErrTreeForm
	tooMany   = api.ErrTreeMany
	tooDeep   = api.ErrTreeNest

	least, greatest = math.MinInt64, math.MaxInt64

	tInt, tQty, tPrice, tTime, tBool, tSide = api.TypeInt, api.TypeQty, api.TypePrice, api.TypeTime, api.TypeBool, api.TypeSide

	// deepest is how deep an expression goes.
	deepest = 24

	// longName is as long as a name may be.
	longName = "abcdefghijklmnop"
)

func lit(t api.Type, n int64) api.Node { return api.Node{Kind: api.NodeLit, Type: t, N: n} }

func num(n int64) api.Node { return lit(api.TypeInt, n) }

func reg(name string) api.Node { return api.Node{Kind: api.NodeReg, Name: name} }

func field(f api.Field) api.Node { return api.Node{Kind: api.NodeField, Field: f} }

func has(f api.Field) api.Node { return api.Node{Kind: api.NodeHas, Field: f} }

func unary(o api.Oper, kids ...api.Node) api.Node {
	return api.Node{Kind: api.NodeUnary, Oper: o, Kids: kids}
}

func binary(o api.Oper, kids ...api.Node) api.Node {
	return api.Node{Kind: api.NodeBinary, Oper: o, Kids: kids}
}

func cond(kids ...api.Node) api.Node { return api.Node{Kind: api.NodeCond, Kids: kids} }

func call(o api.Oper, kids ...api.Node) api.Node {
	return api.Node{Kind: api.NodeCall, Oper: o, Kids: kids}
}

func conv(t api.Type, kids ...api.Node) api.Node {
	return api.Node{Kind: api.NodeConv, Type: t, Kids: kids}
}

// oper is an operator's node, of whichever kind the operator is.
func oper(o api.Oper, kids ...api.Node) api.Node {
	switch {
	case o <= api.OperNot:
		return unary(o, kids...)
	case o <= api.OperMax:
		return call(o, kids...)
	}
	return binary(o, kids...)
}

// at is the same node at another place.
func at(place int, n api.Node) api.Node {
	n.At = place
	return n
}

// grown is a node within so many layers of another one.
func grown(n api.Node, layers int, layer func(api.Node) api.Node) api.Node {
	for range layers {
		n = layer(n)
	}
	return n
}

// row is whatever is first, with so many others behind it by one operator.
func row(o api.Oper, first, other api.Node, count int) api.Node {
	return grown(first, count, func(n api.Node) api.Node { return binary(o, n, other) })
}

// smallest has nothing that a strategy need not have.
func smallest() api.Strategy {
	return api.Strategy{Name: "s", States: []api.State{{Name: "a"}}}
}

// full has one of each kind: registers of all types (i, q, p, t, b, d), two slots (o, u), two states (a, z), with these rules in the first.
func full(rules ...api.Rule) api.Strategy {
	return api.Strategy{
		Name: "s",
		Regs: []api.Reg{
			{Name: "i", Type: api.TypeInt, Init: num(1), At: 101},
			{Name: "q", Type: api.TypeQty, Init: lit(api.TypeQty, 1), At: 102},
			{Name: "p", Type: api.TypePrice, Init: unary(api.OperNeg, lit(api.TypePrice, 1)), At: 103},
			{Name: "t", Type: api.TypeTime, Init: lit(api.TypeTime, 1), At: 104},
			{Name: "b", Type: api.TypeBool, Init: lit(api.TypeBool, 1), At: 105},
			{Name: "d", Type: api.TypeSide, Init: lit(api.TypeSide, 2), At: 106},
		},
		Slots:  []api.Slot{{Name: "o", At: 107}, {Name: "u", At: 108}},
		States: []api.State{{Name: "a", Rules: rules, At: 109}, {Name: "z", At: 110}},
	}
}

// regNames are full's registers' names, by their types.
var regNames = [...]string{api.TypeInt: "i", api.TypeQty: "q", api.TypePrice: "p", api.TypeTime: "t", api.TypeBool: "b", api.TypeSide: "d"}

// doing is full with one rule, which does this.
func doing(dos ...api.Do) api.Strategy {
	return full(api.Rule{When: lit(api.TypeBool, 1), Dos: dos})
}

func rule(when api.Node, dos ...api.Do) api.Rule { return api.Rule{When: when, Dos: dos} }

func halt() api.Do { return api.Do{Kind: api.DoHalt} }

func set(name string, value api.Node) api.Do {
	return api.Do{Kind: api.DoSet, Name: name, Value: value}
}

func goTo(name string) api.Do { return api.Do{Kind: api.DoGoto, Name: name} }

func cancel(name string) api.Do { return api.Do{Kind: api.DoCancel, Name: name} }

func amend(name string, qty, price api.Node) api.Do {
	return api.Do{Kind: api.DoAmend, Name: name, Qty: qty, Price: price}
}

// submit is one of any order but a market's; that one has no price.
func submit(name string, side, qty, price api.Node) api.Do {
	return api.Do{Kind: api.DoSubmit, Order: api.Limit, Name: name, Side: side, Qty: qty, Price: price}
}

func market(name string, side, qty api.Node) api.Do {
	return api.Do{Kind: api.DoSubmit, Order: api.Market, Name: name, Side: side, Qty: qty}
}

// The parts of what is done, as they must be.
func buy() api.Node   { return lit(api.TypeSide, 1) }
func lots() api.Node  { return lit(api.TypeQty, 2) }
func price() api.Node { return lit(api.TypePrice, 3) }

// dosOfEach are things done, one of each kind, that may be done in what full makes.
func dosOfEach() []api.Do {
	return []api.Do{submit("o", buy(), lots(), price()), submit("", buy(), lots(), price()), market("u", buy(), lots()), market("", buy(), lots()),
		amend("o", lots(), price()), cancel("u"), set("i", num(2)), set("b", has(1)), set("d", buy()), goTo("z"), goTo("a"), halt()}
}

// times is a list with the same thing so many times.
func times[T any](n int, x T) []T {
	var l []T
	for range n {
		l = append(l, x)
	}
	return l
}

// short is a tree as a fault is told.
func short(x any) string {
	s := fmt.Sprintf("%+v", x)
	if len(s) > 400 {
		return s[:400] + ".."
	}
	return s
}

// expectFold tells whether an expression is folded to this one, place by place; what comes out stays as it is, folded again.
func expectFold(t *testing.T, n, want api.Node) {
	t.Helper()
	is := lower.Fold(n)
	if !sameNode(is, want) {
		t.Errorf("Fold(%s) is %s; want %s", short(n), short(is), short(want))
	}
	if again := lower.Fold(is); !sameNode(again, is) {
		t.Errorf("Fold(%s) is %s; folded again %s", short(n), short(is), short(again))
	}
}

// expectStays tells whether an expression has nothing that is known ahead.
func expectStays(t *testing.T, n api.Node) {
	t.Helper()
	expectFold(t, n, n)
}

// expectFolds is the same of texts.
func expectFolds(t *testing.T, text, want string) {
	t.Helper()
	if is, no := print.Expr(lower.Fold(expr(t, text))); is != want || no != api.OK {
		t.Errorf("%q is folded to %q, %d; want %q", text, is, no, want)
	}
}

// sameNode tells whether two expressions are the same, places among it; a list that is nil is an empty one.
func sameNode(a, b api.Node) bool {
	if !slices.EqualFunc(a.Kids, b.Kids, sameNode) {
		return false
	}
	a.Kids, b.Kids = nil, nil
	return reflect.DeepEqual(a, b)
}

// sameTable is the same of tables.
func sameTable(a, b api.Table) bool {
	sameState := func(a, b []api.Guard) bool { return slices.EqualFunc(a, b, sameGuard) }
	return a.Name == b.Name && slices.Equal(a.Regs, b.Regs) && a.Slots == b.Slots && slices.Equal(a.Consts, b.Consts) &&
		slices.Equal(a.Code, b.Code) && slices.EqualFunc(a.States, b.States, sameState)
}

func sameGuard(a, b api.Guard) bool {
	return a.When == b.When && a.Fields == b.Fields && a.Regs == b.Regs && slices.Equal(a.Rows, b.Rows)
}

// tableOf is the table of a strategy that has one.
func tableOf(t *testing.T, s api.Strategy) api.Table {
	t.Helper()
	x, err := lower.Strategy(s)
	if err != nil {
		t.Fatalf("Strategy(%s): %s", short(s), told(err))
	}
	return x
}

// expectCode tells whether a table has just these instructions and constants.
func expectCode(t *testing.T, x api.Table, text string, consts ...int64) {
	t.Helper()
	if !slices.Equal(x.Code, code(text)) || !slices.Equal(x.Consts, consts) {
		t.Errorf("the code is %s with %v; want %s with %v", written(x.Code), x.Consts, text, consts)
	}
}

// expectValue tells whether an expression is laid so, as what the register of its type is set to: behind a guard that is reg 4.
func expectValue(t *testing.T, to api.Type, n api.Node, text string, consts ...int64) {
	t.Helper()
	x := tableOf(t, full(rule(reg("b"), set(regNames[to], n))))
	expectCode(t, x, "reg 4, "+text, consts...)
	if want := (api.Span{From: 1, To: len(x.Code)}); x.States[0][0].Rows[0].Value != want {
		t.Errorf("the span of %s is %v; want %v", short(n), x.States[0][0].Rows[0].Value, want)
	}
}

// kindNames are the instructions' kinds as these tests write them.
var kindNames = []string{"", "const", "field", "has", "reg", "oper", "and", "or", "else", "jump"}

// code is instructions out of a text: kinds, and what A is of each.
func code(text string) []api.Instr {
	var all []api.Instr
	for _, x := range strings.Split(text, ", ") {
		name, number, _ := strings.Cut(x, " ")
		a, err := strconv.Atoi(number)
		if kind := slices.Index(kindNames, name); err == nil && kind > 0 {
			all = append(all, api.Instr{Kind: api.InstrKind(kind), A: a})
		} else if text != "" {
			panic(text)
		}
	}
	return all
}

// written is the text of instructions.
func written(l []api.Instr) string {
	var all []string
	for _, in := range l {
		all = append(all, kindNames[in.Kind]+" "+strconv.Itoa(in.A))
	}
	return strings.Join(all, ", ")
}

// span is instructions from a place to another one.
func span(from, to int) api.Span { return api.Span{From: from, To: to} }

// expectRefused tells whether a strategy is refused by just this error, with noughts beside it.
func expectRefused(t *testing.T, s api.Strategy, want error) {
	t.Helper()
	x, err := lower.Strategy(s)
	if !reflect.DeepEqual(x, api.Table{}) || !reflect.DeepEqual(err, want) {
		t.Errorf("Strategy(%s) is %s, %s; want %s", short(s), short(x), told(err), told(want))
	}
}

// expectNoSource is the same of a text: the error stands within one of Source, at its place.
func expectNoSource(t *testing.T, text string, within error, no api.Errno, place int) {
	t.Helper()
	x, most, err := lower.Source(text)
	want := error(&api.Failure{Call: "Source", At: place, Err: within})
	if !reflect.DeepEqual(x, api.Table{}) || most != (api.Cost{}) || !reflect.DeepEqual(err, want) {
		t.Errorf("Source(%q) is %s, %v, %s; want %s", text, short(x), most, told(err), told(want))
	}
	expectFound(t, err, no, place)
}

// expectFound tells whether the library finds the number and the failure in an error, and no other one.
func expectFound(t *testing.T, err error, no api.Errno, place int) {
	t.Helper()
	var f *api.Failure
	var e api.Errno
	if !errors.Is(err, no) || !errors.As(err, &f) || f.At != place || !errors.As(err, &e) || e != no {
		t.Errorf("%s is not found to be %d at %d", told(err), no, place)
	}
	if is, at := parse.Wrong(err); is != no || at != place {
		t.Errorf("Wrong says %d at %d of %s; want %d at %d", is, at, told(err), no, place)
	}
	for _, other := range []api.Errno{tooLong, tooMuch, twice, none, fit, last, wrongForm, tooMany, tooDeep, api.ErrParseToken, api.ErrParseMany, api.ErrParseNest, api.ErrLexByte} {
		if other != no && errors.Is(err, other) {
			t.Errorf("%s is found to be %d, too", told(err), other)
		}
	}
}

// told is an error with its places.
func told(err error) string {
	var f *api.Failure
	if errors.As(err, &f) {
		return fmt.Sprintf("%s at %d: %s", f.Call, f.At, told(f.Err))
	}
	return fmt.Sprint(err)
}

// expr and strategy are trees out of texts.
func expr(t *testing.T, text string) api.Node {
	t.Helper()
	n, err := parse.Expr(text)
	if err != nil {
		t.Fatalf("%q: %v", text, err)
	}
	return n
}

func strategy(t *testing.T, text string) api.Strategy {
	t.Helper()
	s, err := parse.Strategy(text)
	if err != nil {
		t.Fatalf("%q: %v", text, err)
	}
	return s
}

// copied is a tree with memory of its own: behind each of its lists there is room in which a wrong part stands.
func copied[T any](x T) T {
	return deepCopy(reflect.ValueOf(x)).Interface().(T)
}

func deepCopy(v reflect.Value) reflect.Value {
	out := reflect.New(v.Type()).Elem()
	switch v.Kind() {
	case reflect.Struct:
		for i := range v.NumField() {
			out.Field(i).Set(deepCopy(v.Field(i)))
		}
	case reflect.Slice:
		if v.IsNil() {
			break
		}
		room := reflect.MakeSlice(v.Type(), v.Len()+1, v.Len()+1)
		for i := range v.Len() {
			room.Index(i).Set(deepCopy(v.Index(i)))
		}
		room.Index(v.Len()).Set(behind(v.Type().Elem()))
		out.Set(room.Slice(0, v.Len()))
	default:
		out.Set(v)
	}
	return out
}

// behind is the wrong part that stands behind a list.
func behind(t reflect.Type) reflect.Value {
	out := reflect.New(t).Elem()
	if t.Kind() == reflect.Struct {
		out.FieldByName("At").SetInt(4711)
	} else {
		out.SetInt(4711)
	}
	return out
}

// leaves hands each field of a tree that is no struct and no list, in order, and may change it: of a copy.
func leaves(v reflect.Value, name string, see func(name string, v reflect.Value)) {
	switch v.Kind() {
	case reflect.Struct:
		for i := range v.NumField() {
			leaves(v.Field(i), v.Type().Field(i).Name, see)
		}
	case reflect.Slice:
		for i := range v.Len() {
			leaves(v.Index(i), "", see)
		}
	default:
		see(name, v)
	}
}

// lists hands each list of a tree, and may change it: of a copy.
func lists(v reflect.Value, see func(v reflect.Value)) {
	switch v.Kind() {
	case reflect.Struct:
		for i := range v.NumField() {
			lists(v.Field(i), see)
		}
	case reflect.Slice:
		see(v)
		for i := range v.Len() {
			lists(v.Index(i), see)
		}
	}
}

// elem is what a pointer points to, as it is gone through above.
func elem(p any) reflect.Value { return reflect.ValueOf(p).Elem() }

// places changes each place of a tree, of a copy.
func places[T any](x T, to func(was int) int) T {
	out := copied(x)
	leaves(elem(&out), "", func(name string, v reflect.Value) {
		if name == "At" {
			v.SetInt(int64(to(int(v.Int()))))
		}
	})
	return out
}

// numbered gives each place of a tree a number of its own, in any order.
func numbered[T any](x T) T {
	n := 0
	return places(x, func(int) int {
		n++
		return n * 7919 % 100003
	})
}

// draw answers numbers that look drawn, and are the same each time.
func draw(from uint64) func(below int) int {
	return func(below int) int {
		from += 0x9e3779b97f4a7c15
		z := from
		z = (z ^ z>>30) * 0xbf58476d1ce4e5b9
		z = (z ^ z>>27) * 0x94d049bb133111eb
		return int((z ^ z>>31) % uint64(below))
	}
}
