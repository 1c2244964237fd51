package mean_test

import (
	"fmt"
	"math"
	"reflect"
	"slices"
	"testing"

	"tripwire/api"
	"tripwire/mean"
	"tripwire/parse"
)

const (
	over   = api.ErrOver
	zero   = api.ErrZero
	absent = api.ErrMeanAbsent

	noMode    = api.ErrMeanMode
	snapRange = api.ErrSnapRange

	twice = api.ErrTypesTwice
	none  = api.ErrTypesNone
	fit   = api.ErrTypesFit
	last  = api.ErrTypesLast

	wrongForm = api.ErrTreeForm
	tooMany   = api.ErrTreeMany
	tooDeep   = api.ErrTreeNest

	least, greatest = math.MinInt64, math.MaxInt64

	tInt, tQty, tPrice, tTime, tBool, tSide = api.TypeInt, api.TypeQty, api.TypePrice, api.TypeTime, api.TypeBool, api.TypeSide

	// deepest is how deep an expression goes.
	deepest = 24

	// longName is as long as a name may be.
	longName = "abcdefghijklmnop"
)

func lit(t api.Type, n int64) api.Node { return api.Node{Kind: api.NodeLit, Type: t, N: n} }

func num(n int64) api.Node { return lit(api.TypeInt, n) }

func reg(name string) api.Node { return api.Node{Kind: api.NodeReg, Name: name} }

func field(f api.Field) api.Node { return api.Node{Kind: api.NodeField, Field: f} }

func has(f api.Field) api.Node { return api.Node{Kind: api.NodeHas, Field: f} }

func unary(o api.Oper, kids ...api.Node) api.Node {
	return api.Node{Kind: api.NodeUnary, Oper: o, Kids: kids}
}

func binary(o api.Oper, kids ...api.Node) api.Node {
	return api.Node{Kind: api.NodeBinary, Oper: o, Kids: kids}
}

func cond(kids ...api.Node) api.Node { return api.Node{Kind: api.NodeCond, Kids: kids} }

func call(o api.Oper, kids ...api.Node) api.Node {
	return api.Node{Kind: api.NodeCall, Oper: o, Kids: kids}
}

func conv(t api.Type, kids ...api.Node) api.Node {
	return api.Node{Kind: api.NodeConv, Type: t, Kids: kids}
}

// oper is an operator's node, of whichever kind the operator is.
func oper(o api.Oper, kids ...api.Node) api.Node {
	switch {
	case o <= api.OperNot:
		return unary(o, kids...)
	case o <= api.OperMax:
		return call(o, kids...)
	}
	return binary(o, kids...)
}

// at is the same node at another place.
func at(place int, n api.Node) api.Node {
	n.At = place
	return n
}

// grown is a node within so many layers of another one.
func grown(n api.Node, layers int, layer func(api.Node) api.Node) api.Node {
	for range layers {
		n = layer(n)
	}
	return n
}

// row is whatever is first, with so many others behind it by one operator.
func row(o api.Oper, first, other api.Node, count int) api.Node {
	return grown(first, count, func(n api.Node) api.Node { return binary(o, n, other) })
}

// smallest has nothing that a strategy need not have.
func smallest() api.Strategy {
	return api.Strategy{Name: "s", States: []api.State{{Name: "a"}}}
}

// full has one of each kind: registers of all types (i, q, p, t, b, d), two slots (o, u), two states (a, z), with these rules in the first.
func full(rules ...api.Rule) api.Strategy {
	return api.Strategy{
		Name: "s",
		Regs: []api.Reg{
			{Name: "i", Type: api.TypeInt, Init: num(1), At: 101},
			{Name: "q", Type: api.TypeQty, Init: lit(api.TypeQty, 1), At: 102},
			{Name: "p", Type: api.TypePrice, Init: unary(api.OperNeg, lit(api.TypePrice, 1)), At: 103},
			{Name: "t", Type: api.TypeTime, Init: lit(api.TypeTime, 1), At: 104},
			{Name: "b", Type: api.TypeBool, Init: lit(api.TypeBool, 1), At: 105},
			{Name: "d", Type: api.TypeSide, Init: lit(api.TypeSide, 2), At: 106},
		},
		Slots:  []api.Slot{{Name: "o", At: 107}, {Name: "u", At: 108}},
		States: []api.State{{Name: "a", Rules: rules, At: 109}, {Name: "z", At: 110}},
	}
}

// regNames are full's registers' names, by their types.
var regNames = [...]string{api.TypeInt: "i", api.TypeQty: "q", api.TypePrice: "p", api.TypeTime: "t", api.TypeBool: "b", api.TypeSide: "d"}

// doing is full with one rule, which does this.
func doing(dos ...api.Do) api.Strategy {
	return full(api.Rule{When: lit(api.TypeBool, 1), Dos: dos})
}

func rule(when api.Node, dos ...api.Do) api.Rule { return api.Rule{When: when, Dos: dos} }

func halt() api.Do { return api.Do{Kind: api.DoHalt} }

func set(name string, value api.Node) api.Do {
	return api.Do{Kind: api.DoSet, Name: name, Value: value}
}

func goTo(name string) api.Do { return api.Do{Kind: api.DoGoto, Name: name} }

func cancel(name string) api.Do { return api.Do{Kind: api.DoCancel, Name: name} }

func amend(name string, qty, price api.Node) api.Do {
	return api.Do{Kind: api.DoAmend, Name: name, Qty: qty, Price: price}
}

// submit is one of any order but a market's; that one has no price.
func submit(name string, side, qty, price api.Node) api.Do {
	return api.Do{Kind: api.DoSubmit, Order: api.Limit, Name: name, Side: side, Qty: qty, Price: price}
}

func market(name string, side, qty api.Node) api.Do {
	return api.Do{Kind: api.DoSubmit, Order: api.Market, Name: name, Side: side, Qty: qty}
}

// The parts of what is done, as they must be.
func buy() api.Node   { return lit(api.TypeSide, 1) }
func lots() api.Node  { return lit(api.TypeQty, 2) }
func price() api.Node { return lit(api.TypePrice, 3) }

// dosOfEach are things done, one of each kind, that may be done in what full makes.
func dosOfEach() []api.Do {
	return []api.Do{submit("o", buy(), lots(), price()), submit("", buy(), lots(), price()), market("u", buy(), lots()), market("", buy(), lots()),
		amend("o", lots(), price()), cancel("u"), set("i", num(2)), set("b", has(1)), set("d", buy()), goTo("z"), goTo("a"), halt()}
}

// times is a list with the same thing so many times.
func times[T any](n int, x T) []T {
	var l []T
	for range n {
		l = append(l, x)
	}
	return l
}

// short is a tree as a fault is told.
func short(x any) string {
	s := fmt.Sprintf("%+v", x)
	if len(s) > 400 {
		return s[:400] + ".."
	}
	return s
}

// mode is a state and registers.
func mode(state int, regs ...int64) api.Mode { return api.Mode{State: state, Regs: regs} }

// sameMode tells whether two modes are one.
func sameMode(a, b api.Mode) bool { return a.State == b.State && slices.Equal(a.Regs, b.Regs) }

// sameFiring tells whether two firings are one.
func sameFiring(a, b api.Firing) bool {
	actions := slices.Equal(a.Actions, b.Actions)
	a.Actions, b.Actions = nil, nil
	return actions && reflect.DeepEqual(a, b)
}

// What a turn may come to.

func fires(rule int, l ...api.Action) api.Firing {
	return api.Firing{Rule: rule, Actions: l, Status: api.Running}
}

func halts(rule int, l ...api.Action) api.Firing {
	return api.Firing{Rule: rule, Actions: l, Status: api.Halted}
}

func isRefused(rule int) api.Firing {
	return api.Firing{Rule: rule, Refused: true, Status: api.Running}
}

func nothing() api.Firing { return api.Firing{Rule: -1, Status: api.Running} }

func faults(code api.Errno) api.Firing {
	return api.Firing{Rule: -1, Status: api.Faulted, Code: code}
}

// expectValue tells whether an expression has this value.
func expectValue(t *testing.T, s api.Strategy, n api.Node, m api.Mode, w api.Snap, want int64) {
	t.Helper()
	if is, no := mean.Value(s, n, m, w); is != want || no != api.OK {
		t.Errorf("Value(%s) with %v, %v is %d, %d; want %d", short(n), m, w, is, no, want)
	}
}

// expectNoValue tells whether an expression has no value, for this error or fault.
func expectNoValue(t *testing.T, s api.Strategy, n api.Node, m api.Mode, w api.Snap, want api.Errno) {
	t.Helper()
	if is, no := mean.Value(s, n, m, w); is != 0 || no != want {
		t.Errorf("Value(%s) with %v, %v is %d, %d; want the error %d", short(n), m, w, is, no, want)
	}
}

// expectTurn tells whether a turn comes to this, with this mode behind it.
func expectTurn(t *testing.T, s api.Strategy, m api.Mode, w api.Snap, granted bool, want api.Firing, behind api.Mode) {
	t.Helper()
	f, next, no := mean.Turn(s, m, w, granted)
	if !sameFiring(f, want) || !sameMode(next, behind) || no != api.OK {
		t.Errorf("Turn(%s) with %v, %v, %t is %+v, %v, %d; want %+v, %v", short(s), m, w, granted, f, next, no, want, behind)
	}
}

// expectFires tells whether a turn comes to this if it is granted, and if not: then what has an action is refused, and the mode stays.
func expectFires(t *testing.T, s api.Strategy, m api.Mode, w api.Snap, want api.Firing, behind api.Mode) {
	t.Helper()
	expectTurn(t, s, m, w, true, want, behind)
	if len(want.Actions) > 0 {
		want, behind = isRefused(want.Rule), m
	}
	expectTurn(t, s, m, w, false, want, behind)
}

// expectStays tells whether a turn comes to this, granted or not, and the mode stays.
func expectStays(t *testing.T, s api.Strategy, m api.Mode, w api.Snap, want api.Firing) {
	t.Helper()
	expectTurn(t, s, m, w, true, want, m)
	expectTurn(t, s, m, w, false, want, m)
}

// expectNoTurn tells whether a turn is refused by this error, with noughts beside it.
func expectNoTurn(t *testing.T, s api.Strategy, m api.Mode, w api.Snap, want api.Errno) {
	t.Helper()
	for _, granted := range []bool{true, false} {
		f, next, no := mean.Turn(s, m, w, granted)
		if !sameFiring(f, api.Firing{}) || !sameMode(next, api.Mode{}) || no != want {
			t.Errorf("Turn(%s) with %v, %v, %t is %+v, %v, %d; want the error %d", short(s), m, w, granted, f, next, no, want)
		}
	}
}

// expectStart tells whether a strategy begins with these registers.
func expectStart(t *testing.T, s api.Strategy, want ...int64) {
	t.Helper()
	if m, no := mean.Start(s); !sameMode(m, mode(0, want...)) || no != api.OK {
		t.Errorf("Start(%s) is %v, %d; want %v", short(s), m, no, want)
	}
}

// expectNoStart tells whether a strategy does not begin, for this error.
func expectNoStart(t *testing.T, s api.Strategy, want api.Errno) {
	t.Helper()
	if m, no := mean.Start(s); !sameMode(m, api.Mode{}) || no != want {
		t.Errorf("Start(%s) is %v, %d; want the error %d", short(s), m, no, want)
	}
}

// begun is full's mode as it begins; with gives one of its registers another number.
func begun() api.Mode { return mode(0, 1, 1, -1, 1, 1, 2) }

func with(name string, n int64) api.Mode {
	m := begun()
	m.Regs[slices.Index(regNames[1:], name)] = n
	return m
}

// seen is a snapshot in which each field is another number, none of them 0.
func seen() api.Snap {
	return api.Snap{Bid: 11, Ask: 13, Last: 12, Volume: 1001, Now: 77, Open: 55}
}

// expr and strategy are trees out of texts.
func expr(t *testing.T, text string) api.Node {
	t.Helper()
	n, err := parse.Expr(text)
	if err != nil {
		t.Fatalf("%q: %v", text, err)
	}
	return n
}

func strategy(t *testing.T, text string) api.Strategy {
	t.Helper()
	s, err := parse.Strategy(text)
	if err != nil {
		t.Fatalf("%q: %v", text, err)
	}
	return s
}

// copied is a tree with memory of its own: behind each of its lists there is room in which a wrong part stands.
func copied[T any](x T) T {
	return deepCopy(reflect.ValueOf(x)).Interface().(T)
}

func deepCopy(v reflect.Value) reflect.Value {
	out := reflect.New(v.Type()).Elem()
	switch v.Kind() {
	case reflect.Struct:
		for i := range v.NumField() {
			out.Field(i).Set(deepCopy(v.Field(i)))
		}
	case reflect.Slice:
		if v.IsNil() {
			break
		}
		room := reflect.MakeSlice(v.Type(), v.Len()+1, v.Len()+1)
		for i := range v.Len() {
			room.Index(i).Set(deepCopy(v.Index(i)))
		}
		room.Index(v.Len()).Set(behind(v.Type().Elem()))
		out.Set(room.Slice(0, v.Len()))
	default:
		out.Set(v)
	}
	return out
}

// behind is the wrong part that stands behind a list.
func behind(t reflect.Type) reflect.Value {
	out := reflect.New(t).Elem()
	if t.Kind() == reflect.Struct {
		out.FieldByName("At").SetInt(4711)
	} else {
		out.SetInt(4711)
	}
	return out
}

// leaves hands each field of a tree that is no struct and no list, in order, and may change it: of a copy.
func leaves(v reflect.Value, name string, see func(name string, v reflect.Value)) {
	switch v.Kind() {
	case reflect.Struct:
		for i := range v.NumField() {
			leaves(v.Field(i), v.Type().Field(i).Name, see)
		}
	case reflect.Slice:
		for i := range v.Len() {
			leaves(v.Index(i), "", see)
		}
	default:
		see(name, v)
	}
}

// lists hands each list of a tree, and may change it: of a copy.
func lists(v reflect.Value, see func(v reflect.Value)) {
	switch v.Kind() {
	case reflect.Struct:
		for i := range v.NumField() {
			lists(v.Field(i), see)
		}
	case reflect.Slice:
		see(v)
		for i := range v.Len() {
			lists(v.Index(i), see)
		}
	}
}

// elem is what a pointer points to, as it is gone through above.
func elem(p any) reflect.Value { return reflect.ValueOf(p).Elem() }

// places changes each place of a tree, of a copy.
func places[T any](x T, to func(was int) int) T {
	out := copied(x)
	leaves(elem(&out), "", func(name string, v reflect.Value) {
		if name == "At" {
			v.SetInt(int64(to(int(v.Int()))))
		}
	})
	return out
}

// numbered gives each place of a tree a number of its own, in any order.
func numbered[T any](x T) T {
	n := 0
	return places(x, func(int) int {
		n++
		return n * 7919 % 100003
	})
}

// draw answers numbers that look drawn, and are the same each time.
func draw(from uint64) func(below int) int {
	return func(below int) int {
		from += 0x9e3779b97f4a7c15
		z := from
		z = (z ^ z>>30) * 0xbf58476d1ce4e5b9
		z = (z ^ z>>27) * 0x94d049bb133111eb
		return int((z ^ z>>31) % uint64(below))
	}
}
