package types_test

import (
	"errors"
	"fmt"
	"math"
	"reflect"
	"testing"

	"tripwire/api"
	"tripwire/parse"
	"tripwire/types"
)

const (
	twice = api.ErrTypesTwice
	none  = api.ErrTypesNone
	fit   = api.ErrTypesFit
	last  = api.ErrTypesLast

	wrongForm = api.ErrTreeForm
	tooMany   = api.ErrTreeMany
	tooDeep   = api.ErrTreeNest

	least, greatest = math.MinInt64, math.MaxInt64

	// deepest is how deep an expression goes.
	deepest = 24

	// longName is as long as a name may be.
	longName = "abcdefghijklmnop"
)

func lit(t api.Type, n int64) api.Node { return api.Node{Kind: api.NodeLit, Type: t, N: n} }

func num(n int64) api.Node { return lit(api.TypeInt, n) }

func reg(name string) api.Node { return api.Node{Kind: api.NodeReg, Name: name} }

func field(f api.Field) api.Node { return api.Node{Kind: api.NodeField, Field: f} }

func has(f api.Field) api.Node { return api.Node{Kind: api.NodeHas, Field: f} }

func unary(o api.Oper, kids ...api.Node) api.Node {
	return api.Node{Kind: api.NodeUnary, Oper: o, Kids: kids}
}

func binary(o api.Oper, kids ...api.Node) api.Node {
	return api.Node{Kind: api.NodeBinary, Oper: o, Kids: kids}
}

func cond(kids ...api.Node) api.Node { return api.Node{Kind: api.NodeCond, Kids: kids} }

func call(o api.Oper, kids ...api.Node) api.Node {
	return api.Node{Kind: api.NodeCall, Oper: o, Kids: kids}
}

func conv(t api.Type, kids ...api.Node) api.Node {
	return api.Node{Kind: api.NodeConv, Type: t, Kids: kids}
}

// oper is an operator's node, of whichever kind the operator is.
func oper(o api.Oper, kids ...api.Node) api.Node {
	switch {
	case o <= api.OperNot:
		return unary(o, kids...)
	case o <= api.OperMax:
		return call(o, kids...)
	}
	return binary(o, kids...)
}

// at is the same node at another place.
func at(place int, n api.Node) api.Node {
	n.At = place
	return n
}

// grown is a node within so many layers of another one.
func grown(n api.Node, layers int, layer func(api.Node) api.Node) api.Node {
	for range layers {
		n = layer(n)
	}
	return n
}

// row is whatever is first, with so many others behind it by one operator.
func row(o api.Oper, first, other api.Node, count int) api.Node {
	return grown(first, count, func(n api.Node) api.Node { return binary(o, n, other) })
}

// smallest has nothing that a strategy need not have.
func smallest() api.Strategy {
	return api.Strategy{Name: "s", States: []api.State{{Name: "a"}}}
}

// full has one of each kind: registers of all types (i, q, p, t, b, d), two slots (o, u), two states (a, z), with these rules in the first.
func full(rules ...api.Rule) api.Strategy {
	return api.Strategy{
		Name: "s",
		Regs: []api.Reg{
			{Name: "i", Type: api.TypeInt, Init: num(1), At: 101},
			{Name: "q", Type: api.TypeQty, Init: lit(api.TypeQty, 1), At: 102},
			{Name: "p", Type: api.TypePrice, Init: unary(api.OperNeg, lit(api.TypePrice, 1)), At: 103},
			{Name: "t", Type: api.TypeTime, Init: lit(api.TypeTime, 1), At: 104},
			{Name: "b", Type: api.TypeBool, Init: lit(api.TypeBool, 1), At: 105},
			{Name: "d", Type: api.TypeSide, Init: lit(api.TypeSide, 2), At: 106},
		},
		Slots:  []api.Slot{{Name: "o", At: 107}, {Name: "u", At: 108}},
		States: []api.State{{Name: "a", Rules: rules, At: 109}, {Name: "z", At: 110}},
	}
}

// regNames are full's registers' names, by their types.
var regNames = [...]string{api.TypeInt: "i", api.TypeQty: "q", api.TypePrice: "p", api.TypeTime: "t", api.TypeBool: "b", api.TypeSide: "d"}

// doing is full with one rule, which does this.
func doing(dos ...api.Do) api.Strategy {
	return full(api.Rule{When: lit(api.TypeBool, 1), Dos: dos})
}

func halt() api.Do { return api.Do{Kind: api.DoHalt} }

func set(name string, value api.Node) api.Do {
	return api.Do{Kind: api.DoSet, Name: name, Value: value}
}

func goTo(name string) api.Do { return api.Do{Kind: api.DoGoto, Name: name} }

func cancel(name string) api.Do { return api.Do{Kind: api.DoCancel, Name: name} }

func amend(name string, qty, price api.Node) api.Do {
	return api.Do{Kind: api.DoAmend, Name: name, Qty: qty, Price: price}
}

// submit is one of any order but a market's; that one has no price.
func submit(name string, side, qty, price api.Node) api.Do {
	return api.Do{Kind: api.DoSubmit, Order: api.Limit, Name: name, Side: side, Qty: qty, Price: price}
}

func market(name string, side, qty api.Node) api.Do {
	return api.Do{Kind: api.DoSubmit, Order: api.Market, Name: name, Side: side, Qty: qty}
}

// doAt is the same at another place.
func doAt(place int, d api.Do) api.Do {
	d.At = place
	return d
}

// The parts of what is done, as they must be.
func buy() api.Node   { return lit(api.TypeSide, 1) }
func lots() api.Node  { return lit(api.TypeQty, 2) }
func price() api.Node { return lit(api.TypePrice, 3) }

// dosOfEach are things done, one of each kind, that may be done in what full makes.
func dosOfEach() []api.Do {
	return []api.Do{submit("o", buy(), lots(), price()), submit("", buy(), lots(), price()), market("u", buy(), lots()), market("", buy(), lots()),
		amend("o", lots(), price()), cancel("u"), set("i", num(2)), set("b", has(1)), set("d", buy()), goTo("z"), goTo("a"), halt()}
}

// times is a list with the same thing so many times.
func times[T any](n int, x T) []T {
	var l []T
	for range n {
		l = append(l, x)
	}
	return l
}

// short is a tree as a fault is told.
func short(x any) string {
	s := fmt.Sprintf("%+v", x)
	if len(s) > 400 {
		return s[:400] + ".."
	}
	return s
}

// ofFailure and checkFailure are the errors as they must be, to the last field.
func ofFailure(place int, no api.Errno) error { return &api.Failure{Call: "Of", At: place, Err: no} }

func checkFailure(place int, no api.Errno) error {
	return &api.Failure{Call: "Check", At: place, Err: no}
}

// aroundFailure is what Check says of something wrong that Of says.
func aroundFailure(place int, no api.Errno) error {
	return &api.Failure{Call: "Check", At: place, Err: ofFailure(place, no)}
}

func expectType(t *testing.T, s api.Strategy, n api.Node, want api.Type) {
	t.Helper()
	if is, err := types.Of(s, n); is != want || err != nil {
		t.Errorf("Of(%s) is %d, %v; want %d", short(n), is, err, want)
	}
}

// expectNoType tells whether an expression has no type for this reason, at this place.
func expectNoType(t *testing.T, s api.Strategy, n api.Node, no api.Errno, place int) {
	t.Helper()
	is, err := types.Of(s, n)
	if is != 0 || !reflect.DeepEqual(err, ofFailure(place, no)) {
		t.Errorf("Of(%s) is %d, %s; want %d at %d", short(n), is, told(err), no, place)
	}
	expectFound(t, err, no, place)
}

func expectFine(t *testing.T, s api.Strategy) {
	t.Helper()
	if err := types.Check(s); err != nil {
		t.Errorf("Check(%s) is %s", short(s), told(err))
	}
}

// expectWrong tells whether a strategy is refused for this reason, at this place, by Check itself.
func expectWrong(t *testing.T, s api.Strategy, no api.Errno, place int) {
	t.Helper()
	err := types.Check(s)
	if !reflect.DeepEqual(err, checkFailure(place, no)) {
		t.Errorf("Check(%s) is %s; want %d at %d", short(s), told(err), no, place)
	}
	expectFound(t, err, no, place)
}

// expectWrongBelow tells whether it is refused for what Of says of an expression.
func expectWrongBelow(t *testing.T, s api.Strategy, no api.Errno, place int) {
	t.Helper()
	err := types.Check(s)
	if !reflect.DeepEqual(err, aroundFailure(place, no)) {
		t.Errorf("Check(%s) is %s; want %d at %d, within what Of says", short(s), told(err), no, place)
		return
	}
	expectFound(t, err, no, place)
	var outer, inner *api.Failure
	if !errors.As(err, &outer) || !errors.As(outer.Err, &inner) || outer.Call != "Check" || inner.Call != "Of" || inner.At != outer.At || inner == outer {
		t.Errorf("%s has not both failures", told(err))
	}
}

// expectFound tells whether the library finds the number and the failure in an error.
func expectFound(t *testing.T, err error, no api.Errno, place int) {
	t.Helper()
	var f *api.Failure
	var e api.Errno
	if !errors.Is(err, no) || !errors.As(err, &f) || f.At != place || !errors.As(err, &e) || e != no {
		t.Errorf("%s is not found to be %d at %d", told(err), no, place)
	}
	for _, other := range []api.Errno{twice, none, fit, last, wrongForm, tooMany, tooDeep} {
		if other != no && errors.Is(err, other) {
			t.Errorf("%s is found to be %d, too", told(err), other)
		}
	}
}

// told is an error with its places.
func told(err error) string {
	var f *api.Failure
	if errors.As(err, &f) {
		return fmt.Sprintf("%s at %d: %s", f.Call, f.At, told(f.Err))
	}
	return fmt.Sprint(err)
}

// expr and strategy are trees out of texts.
func expr(t *testing.T, text string) api.Node {
	t.Helper()
	n, err := parse.Expr(text)
	if err != nil {
		t.Fatalf("%q: %v", text, err)
	}
	return n
}

func strategy(t *testing.T, text string) api.Strategy {
	t.Helper()
	s, err := parse.Strategy(text)
	if err != nil {
		t.Fatalf("%q: %v", text, err)
	}
	return s
}

// copied is a tree with memory of its own: behind each of its lists there is room in which a wrong part stands.
func copied[T any](x T) T {
	return deepCopy(reflect.ValueOf(x)).Interface().(T)
}

func deepCopy(v reflect.Value) reflect.Value {
	out := reflect.New(v.Type()).Elem()
	switch v.Kind() {
	case reflect.Struct:
		for i := range v.NumField() {
			out.Field(i).Set(deepCopy(v.Field(i)))
		}
	case reflect.Slice:
		if v.IsNil() {
			break
		}
		room := reflect.MakeSlice(v.Type(), v.Len()+1, v.Len()+1)
		for i := range v.Len() {
			room.Index(i).Set(deepCopy(v.Index(i)))
		}
		room.Index(v.Len()).Set(behind(v.Type().Elem()))
		out.Set(room.Slice(0, v.Len()))
	default:
		out.Set(v)
	}
	return out
}

// behind is the wrong part that stands behind a list.
func behind(t reflect.Type) reflect.Value {
	out := reflect.New(t).Elem()
	out.FieldByName("At").SetInt(4711)
	return out
}

// leaves hands each field of a tree that is no struct and no list, in order, and may change it: of a copy.
func leaves(v reflect.Value, name string, see func(name string, v reflect.Value)) {
	switch v.Kind() {
	case reflect.Struct:
		for i := range v.NumField() {
			leaves(v.Field(i), v.Type().Field(i).Name, see)
		}
	case reflect.Slice:
		for i := range v.Len() {
			leaves(v.Index(i), "", see)
		}
	default:
		see(name, v)
	}
}

// lists hands each list of a tree, and may change it: of a copy.
func lists(v reflect.Value, see func(v reflect.Value)) {
	switch v.Kind() {
	case reflect.Struct:
		for i := range v.NumField() {
			lists(v.Field(i), see)
		}
	case reflect.Slice:
		see(v)
		for i := range v.Len() {
			lists(v.Index(i), see)
		}
	}
}

// elem is what a pointer points to, as it is gone through above.
func elem(p any) reflect.Value { return reflect.ValueOf(p).Elem() }

// places changes each place of a tree, of a copy.
func places[T any](x T, to func(was int) int) T {
	out := copied(x)
	leaves(elem(&out), "", func(name string, v reflect.Value) {
		if name == "At" {
			v.SetInt(int64(to(int(v.Int()))))
		}
	})
	return out
}

// numbered gives each place of a tree a number of its own, in any order.
func numbered[T any](x T) T {
	n := 0
	return places(x, func(int) int {
		n++
		return n * 7919 % 100003
	})
}

// draw answers numbers that look drawn, and are the same each time.
func draw(from uint64) func(below int) int {
	return func(below int) int {
		from += 0x9e3779b97f4a7c15
		z := from
		z = (z ^ z>>30) * 0xbf58476d1ce4e5b9
		z = (z ^ z>>27) * 0x94d049bb133111eb
		return int((z ^ z>>31) % uint64(below))
	}
}
