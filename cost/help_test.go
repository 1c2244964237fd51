package cost_test

import (
	"errors"
	"fmt"
	"math"
	"reflect"
	"slices"
	"testing"

	"tripwire/api"
	"tripwire/cost"
	"tripwire/parse"
	"tripwire/types"
)

const (
	tooMuch = api.ErrCostMuch

	twice = api.ErrTypesTwice
	none  = api.ErrTypesNone
	fit   = api.ErrTypesFit
	last  = api.ErrTypesLast

	wrongForm = api.ErrTreeForm
	tooMany   = api.ErrTreeMany
	tooDeep   = api.ErrTreeNest

	least, greatest = math.MinInt64, math.MaxInt64

	tInt, tQty, tPrice, tTime, tBool, tSide = api.TypeInt, api.TypeQty, api.TypePrice, api.TypeTime, api.TypeBool, api.TypeSide

	// deepest is how deep an expression goes.
	deepest = 24

	// longName is as long as a name may be.
	longName = "abcdefghijklmnop"
)

func lit(t api.Type, n int64) api.Node { return api.Node{Kind: api.NodeLit, Type: t, N: n} }

func num(n int64) api.Node { return lit(api.TypeInt, n) }

func reg(name string) api.Node { return api.Node{Kind: api.NodeReg, Name: name} }

func field(f api.Field) api.Node { return api.Node{Kind: api.NodeField, Field: f} }

func has(f api.Field) api.Node { return api.Node{Kind: api.NodeHas, Field: f} }

func unary(o api.Oper, kids ...api.Node) api.Node {
	return api.Node{Kind: api.NodeUnary, Oper: o, Kids: kids}
}

func binary(o api.Oper, kids ...api.Node) api.Node {
	return api.Node{Kind: api.NodeBinary, Oper: o, Kids: kids}
}

func cond(kids ...api.Node) api.Node { return api.Node{Kind: api.NodeCond, Kids: kids} }

func call(o api.Oper, kids ...api.Node) api.Node {
	return api.Node{Kind: api.NodeCall, Oper: o, Kids: kids}
}

func conv(t api.Type, kids ...api.Node) api.Node {
	return api.Node{Kind: api.NodeConv, Type: t, Kids: kids}
}

// oper is an operator's node, of whichever kind the operator is.
func oper(o api.Oper, kids ...api.Node) api.Node {
	switch {
	case o <= api.OperNot:
		return unary(o, kids...)
	case o <= api.OperMax:
		return call(o, kids...)
	}
	return binary(o, kids...)
}

// at is the same node at another place.
func at(place int, n api.Node) api.Node {
	n.At = place
	return n
}

// grown is a node within so many layers of another one.
func grown(n api.Node, layers int, layer func(api.Node) api.Node) api.Node {
	for range layers {
		n = layer(n)
	}
	return n
}

// row is whatever is first, with so many others behind it by one operator.
func row(o api.Oper, first, other api.Node, count int) api.Node {
	return grown(first, count, func(n api.Node) api.Node { return binary(o, n, other) })
}

// smallest has nothing that a strategy need not have.
func smallest() api.Strategy {
	return api.Strategy{Name: "s", States: []api.State{{Name: "a"}}}
}

// full has one of each kind: registers of all types (i, q, p, t, b, d), two slots (o, u), two states (a, z), with these rules in the first.
func full(rules ...api.Rule) api.Strategy {
	return api.Strategy{
		Name: "s",
		Regs: []api.Reg{
			{Name: "i", Type: api.TypeInt, Init: num(1), At: 101},
			{Name: "q", Type: api.TypeQty, Init: lit(api.TypeQty, 1), At: 102},
			{Name: "p", Type: api.TypePrice, Init: unary(api.OperNeg, lit(api.TypePrice, 1)), At: 103},
			{Name: "t", Type: api.TypeTime, Init: lit(api.TypeTime, 1), At: 104},
			{Name: "b", Type: api.TypeBool, Init: lit(api.TypeBool, 1), At: 105},
			{Name: "d", Type: api.TypeSide, Init: lit(api.TypeSide, 2), At: 106},
		},
		Slots:  []api.Slot{{Name: "o", At: 107}, {Name: "u", At: 108}},
		States: []api.State{{Name: "a", Rules: rules, At: 109}, {Name: "z", At: 110}},
	}
}

// regNames are full's registers' names, by their types.
var regNames = [...]string{api.TypeInt: "i", api.TypeQty: "q", api.TypePrice: "p", api.TypeTime: "t", api.TypeBool: "b", api.TypeSide: "d"}

// doing is full with one rule, which does this.
func doing(dos ...api.Do) api.Strategy {
	return full(api.Rule{When: lit(api.TypeBool, 1), Dos: dos})
}

func halt() api.Do { return api.Do{Kind: api.DoHalt} }

func set(name string, value api.Node) api.Do {
	return api.Do{Kind: api.DoSet, Name: name, Value: value}
}

func goTo(name string) api.Do { return api.Do{Kind: api.DoGoto, Name: name} }

func cancel(name string) api.Do { return api.Do{Kind: api.DoCancel, Name: name} }

func amend(name string, qty, price api.Node) api.Do {
	return api.Do{Kind: api.DoAmend, Name: name, Qty: qty, Price: price}
}

// submit is one of any order but a market's; that one has no price.
func submit(name string, side, qty, price api.Node) api.Do {
	return api.Do{Kind: api.DoSubmit, Order: api.Limit, Name: name, Side: side, Qty: qty, Price: price}
}

func market(name string, side, qty api.Node) api.Do {
	return api.Do{Kind: api.DoSubmit, Order: api.Market, Name: name, Side: side, Qty: qty}
}

// doAt is the same at another place.
func doAt(place int, d api.Do) api.Do {
	d.At = place
	return d
}

// The parts of what is done, as they must be.
func buy() api.Node   { return lit(api.TypeSide, 1) }
func lots() api.Node  { return lit(api.TypeQty, 2) }
func price() api.Node { return lit(api.TypePrice, 3) }

// dosOfEach are things done, one of each kind, that may be done in what full makes.
func dosOfEach() []api.Do {
	return []api.Do{submit("o", buy(), lots(), price()), submit("", buy(), lots(), price()), market("u", buy(), lots()), market("", buy(), lots()),
		amend("o", lots(), price()), cancel("u"), set("i", num(2)), set("b", has(1)), set("d", buy()), goTo("z"), goTo("a"), halt()}
}

// times is a list with the same thing so many times.
func times[T any](n int, x T) []T {
	var l []T
	for range n {
		l = append(l, x)
	}
	return l
}

// short is a tree as a fault is told.
func short(x any) string {
	s := fmt.Sprintf("%+v", x)
	if len(s) > 400 {
		return s[:400] + ".."
	}
	return s
}

// expectWeight tells whether an expression has this weight.
func expectWeight(t *testing.T, n api.Node, want int) {
	t.Helper()
	if is := cost.Expr(n); is != want {
		t.Errorf("Expr(%s) is %d; want %d", short(n), is, want)
	}
}

// expectCosts tells whether these are the costs of the states, and whether Strategy says the greatest of them, or that they are too much.
func expectCosts(t *testing.T, s api.Strategy, want ...api.Cost) {
	t.Helper()
	all, err := cost.States(s)
	if err != nil || !slices.Equal(all, want) {
		t.Errorf("States(%s) is %v, %s; want %v", short(s), all, told(err), want)
	}
	var most api.Cost
	for _, c := range want {
		most.Steps, most.Acts = max(most.Steps, c.Steps), max(most.Acts, c.Acts)
	}
	if most.Steps > 500 {
		expectTooMuch(t, s)
		return
	}
	if is, err := cost.Strategy(s); is != most || err != nil {
		t.Errorf("Strategy(%s) is %v, %s; want %v", short(s), is, told(err), most)
	}
}

// expectTooMuch tells whether Strategy refuses what costs too much, with all that its error has.
func expectTooMuch(t *testing.T, s api.Strategy) {
	t.Helper()
	is, err := cost.Strategy(s)
	if is != (api.Cost{}) || !reflect.DeepEqual(err, error(&api.Failure{Call: "Strategy", At: 0, Err: tooMuch})) {
		t.Errorf("Strategy(%s) is %v, %s", short(s), is, told(err))
	}
	expectFound(t, err, tooMuch, 0)
}

// expectRefused tells whether both calls hand on what types.Check says of a strategy, and that it is this.
func expectRefused(t *testing.T, s api.Strategy, no api.Errno, place int) {
	t.Helper()
	want := types.Check(s)
	expectFound(t, want, no, place)
	all, err := cost.States(s)
	if len(all) != 0 || !reflect.DeepEqual(err, want) {
		t.Errorf("States(%s) is %v, %s; want %s", short(s), all, told(err), told(want))
	}
	expectFound(t, err, no, place)
	most, err := cost.Strategy(s)
	if most != (api.Cost{}) || !reflect.DeepEqual(err, want) {
		t.Errorf("Strategy(%s) is %v, %s; want %s", short(s), most, told(err), told(want))
	}
	expectFound(t, err, no, place)
}

// expectFound tells whether the library finds the number and the failure in an error.
func expectFound(t *testing.T, err error, no api.Errno, place int) {
	t.Helper()
	var f *api.Failure
	var e api.Errno
	if !errors.Is(err, no) || !errors.As(err, &f) || f.At != place || !errors.As(err, &e) || e != no {
		t.Errorf("%s is not found to be %d at %d", told(err), no, place)
	}
	for _, other := range []api.Errno{tooMuch, twice, none, fit, last, wrongForm, tooMany, tooDeep} {
		if other != no && errors.Is(err, other) {
			t.Errorf("%s is found to be %d, too", told(err), other)
		}
	}
}

// told is an error with its places.
func told(err error) string {
	var f *api.Failure
	if errors.As(err, &f) {
		return fmt.Sprintf("%s at %d: %s", f.Call, f.At, told(f.Err))
	}
	return fmt.Sprint(err)
}

// expr and strategy are trees out of texts.
func expr(t *testing.T, text string) api.Node {
	t.Helper()
	n, err := parse.Expr(text)
	if err != nil {
		t.Fatalf("%q: %v", text, err)
	}
	return n
}

func strategy(t *testing.T, text string) api.Strategy {
	t.Helper()
	s, err := parse.Strategy(text)
	if err != nil {
		t.Fatalf("%q: %v", text, err)
	}
	return s
}

// copied is a tree with memory of its own: behind each of its lists there is room in which a wrong part stands.
func copied[T any](x T) T {
	return deepCopy(reflect.ValueOf(x)).Interface().(T)
}

func deepCopy(v reflect.Value) reflect.Value {
	out := reflect.New(v.Type()).Elem()
	switch v.Kind() {
	case reflect.Struct:
		for i := range v.NumField() {
			out.Field(i).Set(deepCopy(v.Field(i)))
		}
	case reflect.Slice:
		if v.IsNil() {
			break
		}
		room := reflect.MakeSlice(v.Type(), v.Len()+1, v.Len()+1)
		for i := range v.Len() {
			room.Index(i).Set(deepCopy(v.Index(i)))
		}
		room.Index(v.Len()).Set(behind(v.Type().Elem()))
		out.Set(room.Slice(0, v.Len()))
	default:
		out.Set(v)
	}
	return out
}

// behind is the wrong part that stands behind a list.
func behind(t reflect.Type) reflect.Value {
	out := reflect.New(t).Elem()
	out.FieldByName("At").SetInt(4711)
	return out
}

// leaves hands each field of a tree that is no struct and no list, in order, and may change it: of a copy.
func leaves(v reflect.Value, name string, see func(name string, v reflect.Value)) {
	switch v.Kind() {
	case reflect.Struct:
		for i := range v.NumField() {
			leaves(v.Field(i), v.Type().Field(i).Name, see)
		}
	case reflect.Slice:
		for i := range v.Len() {
			leaves(v.Index(i), "", see)
		}
	default:
		see(name, v)
	}
}

// lists hands each list of a tree, and may change it: of a copy.
func lists(v reflect.Value, see func(v reflect.Value)) {
	switch v.Kind() {
	case reflect.Struct:
		for i := range v.NumField() {
			lists(v.Field(i), see)
		}
	case reflect.Slice:
		see(v)
		for i := range v.Len() {
			lists(v.Index(i), see)
		}
	}
}

// elem is what a pointer points to, as it is gone through above.
func elem(p any) reflect.Value { return reflect.ValueOf(p).Elem() }

// places changes each place of a tree, of a copy.
func places[T any](x T, to func(was int) int) T {
	out := copied(x)
	leaves(elem(&out), "", func(name string, v reflect.Value) {
		if name == "At" {
			v.SetInt(int64(to(int(v.Int()))))
		}
	})
	return out
}

// numbered gives each place of a tree a number of its own, in any order.
func numbered[T any](x T) T {
	n := 0
	return places(x, func(int) int {
		n++
		return n * 7919 % 100003
	})
}

// draw answers numbers that look drawn, and are the same each time.
func draw(from uint64) func(below int) int {
	return func(below int) int {
		from += 0x9e3779b97f4a7c15
		z := from
		z = (z ^ z>>30) * 0xbf58476d1ce4e5b9
		z = (z ^ z>>27) * 0x94d049bb133111eb
		return int((z ^ z>>31) % uint64(below))
	}
}
