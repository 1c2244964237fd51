package print_test

import (
	"fmt"
	"math"
	"reflect"
	"strings"
	"testing"

	"tripwire/api"
	"tripwire/parse"
	"tripwire/print"
	"tripwire/tree"
)

const (
	tooLong = api.ErrPrintLong

	wrongForm = api.ErrTreeForm
	tooMany   = api.ErrTreeMany
	tooDeep   = api.ErrTreeNest

	least, greatest = math.MinInt64, math.MaxInt64

	// most is how many bytes a text may have, deepest how deep an expression goes.
	most    = 4096
	deepest = 24

	// longName is as long as a name may be.
	longName = "abcdefghijklmnop"
)

func lit(t api.Type, n int64) api.Node { return api.Node{Kind: api.NodeLit, Type: t, N: n} }

func num(n int64) api.Node { return lit(api.TypeInt, n) }

func reg(name string) api.Node { return api.Node{Kind: api.NodeReg, Name: name} }

func field(f api.Field) api.Node { return api.Node{Kind: api.NodeField, Field: f} }

func has(f api.Field) api.Node { return api.Node{Kind: api.NodeHas, Field: f} }

func unary(o api.Oper, kids ...api.Node) api.Node {
	return api.Node{Kind: api.NodeUnary, Oper: o, Kids: kids}
}

func binary(o api.Oper, kids ...api.Node) api.Node {
	return api.Node{Kind: api.NodeBinary, Oper: o, Kids: kids}
}

func cond(kids ...api.Node) api.Node { return api.Node{Kind: api.NodeCond, Kids: kids} }

func call(o api.Oper, kids ...api.Node) api.Node {
	return api.Node{Kind: api.NodeCall, Oper: o, Kids: kids}
}

func conv(t api.Type, kids ...api.Node) api.Node {
	return api.Node{Kind: api.NodeConv, Type: t, Kids: kids}
}

// grown is a node within so many layers of another one.
func grown(n api.Node, layers int, layer func(api.Node) api.Node) api.Node {
	for range layers {
		n = layer(n)
	}
	return n
}

// row is a literal, or whatever is first, with so many others behind it by one operator.
func row(o api.Oper, first, other api.Node, count int) api.Node {
	return grown(first, count, func(n api.Node) api.Node { return binary(o, n, other) })
}

// smallest has nothing that a strategy need not have.
func smallest() api.Strategy {
	return api.Strategy{Name: "s", States: []api.State{{Name: "a"}}}
}

// ruled is a strategy of one rule.
func ruled(when api.Node, dos ...api.Do) api.Strategy {
	return api.Strategy{Name: "s", States: []api.State{{Name: "a", Rules: []api.Rule{{When: when, Dos: dos}}}}}
}

// keeping is one of these registers.
func keeping(regs ...api.Reg) api.Strategy {
	s := smallest()
	s.Regs = regs
	return s
}

func halt() api.Do { return api.Do{Kind: api.DoHalt} }

func set(name string, value api.Node) api.Do {
	return api.Do{Kind: api.DoSet, Name: name, Value: value}
}

// times is a list with the same thing so many times.
func times[T any](n int, x T) []T {
	var l []T
	for range n {
		l = append(l, x)
	}
	return l
}

// short is a tree, or a text, as a fault is told.
func short(x any) string {
	s := fmt.Sprintf("%+v", x)
	if len(s) > 300 {
		return s[:300] + ".."
	}
	return s
}

// expectExpr tells whether the text of an expression is so, and that the expression comes back out of it.
func expectExpr(t *testing.T, n api.Node, want string) {
	t.Helper()
	s, no := print.Expr(n)
	if s != want || no != api.OK {
		t.Errorf("Expr is %q, %d; want %q", short(s), no, short(want))
	}
	back, err := parse.Expr(s)
	if err != nil || !tree.SameExpr(back, n) {
		t.Errorf("%q does not come back: %v", short(s), err)
	}
}

func expectNoExpr(t *testing.T, n api.Node, want api.Errno) {
	t.Helper()
	if s, no := print.Expr(n); s != "" || no != want {
		t.Errorf("Expr(%s) is %q, %d; want %d", short(n), short(s), no, want)
	}
}

func expectStrategy(t *testing.T, x api.Strategy, want string) {
	t.Helper()
	s, no := print.Strategy(x)
	if s != want || no != api.OK {
		t.Errorf("Strategy is %q, %d; want %q", s, no, want)
	}
	back, err := parse.Strategy(s)
	if err != nil || !tree.Same(back, x) {
		t.Errorf("%q does not come back: %v", short(s), err)
	}
	expectTidy(t, s, want)
}

func expectNoStrategy(t *testing.T, x api.Strategy, want api.Errno) {
	t.Helper()
	if s, no := print.Strategy(x); s != "" || no != want {
		t.Errorf("Strategy(%s) is %q, %d; want %d", short(x), short(s), no, want)
	}
}

func expectTidy(t *testing.T, s, want string) {
	t.Helper()
	if got, err := print.Tidy(s); got != want || err != nil {
		t.Errorf("Tidy(%q) is %q, %v; want %q", short(s), got, err, want)
	}
}

// expectNoTidy tells whether a text is refused by a failure that is just this one.
func expectNoTidy(t *testing.T, s string, want error) {
	t.Helper()
	got, err := print.Tidy(s)
	if got != "" || !reflect.DeepEqual(err, want) {
		t.Errorf("Tidy(%q) is %q, %#v; want %#v", short(s), short(got), err, want)
	}
}

// ruleText is the text of what ruled makes.
func ruleText(when, dos string) string {
	return "strategy s {\n  state a {\n    when " + when + " do " + dos + ";\n  }\n}\n"
}

// expectDos tells whether what a rule does is written so.
func expectDos(t *testing.T, want string, dos ...api.Do) {
	t.Helper()
	expectStrategy(t, ruled(has(1), dos...), ruleText("has bid", want))
}

// expectReg tells whether a register's line is so.
func expectReg(t *testing.T, r api.Reg, want string) {
	t.Helper()
	expectStrategy(t, keeping(r), "strategy s {\n  "+want+"\n  state a {\n  }\n}\n")
}

// copied is a tree with memory of its own: behind each of its lists there is room in which a wrong part stands.
func copied[T any](x T) T {
	return deepCopy(reflect.ValueOf(x)).Interface().(T)
}

func deepCopy(v reflect.Value) reflect.Value {
	out := reflect.New(v.Type()).Elem()
	switch v.Kind() {
	case reflect.Struct:
		for i := range v.NumField() {
			out.Field(i).Set(deepCopy(v.Field(i)))
		}
	case reflect.Slice:
		if v.IsNil() {
			break
		}
		room := reflect.MakeSlice(v.Type(), v.Len()+1, v.Len()+1)
		for i := range v.Len() {
			room.Index(i).Set(deepCopy(v.Index(i)))
		}
		room.Index(v.Len()).Set(behind(v.Type().Elem()))
		out.Set(room.Slice(0, v.Len()))
	default:
		out.Set(v)
	}
	return out
}

// behind is the wrong part that stands behind a list.
func behind(t reflect.Type) reflect.Value {
	out := reflect.New(t).Elem()
	out.FieldByName("At").SetInt(4711)
	return out
}

// leaves hands each field of a tree that is no struct and no list, in order, and may change it: of a copy.
func leaves(v reflect.Value, name string, see func(name string, v reflect.Value)) {
	switch v.Kind() {
	case reflect.Struct:
		for i := range v.NumField() {
			leaves(v.Field(i), v.Type().Field(i).Name, see)
		}
	case reflect.Slice:
		for i := range v.Len() {
			leaves(v.Index(i), "", see)
		}
	default:
		see(name, v)
	}
}

// lists hands each list of a tree, and may change it: of a copy.
func lists(v reflect.Value, see func(v reflect.Value)) {
	switch v.Kind() {
	case reflect.Struct:
		for i := range v.NumField() {
			lists(v.Field(i), see)
		}
	case reflect.Slice:
		see(v)
		for i := range v.Len() {
			lists(v.Index(i), see)
		}
	}
}

// elem is what a pointer points to, as it is gone through above.
func elem(p any) reflect.Value { return reflect.ValueOf(p).Elem() }

// placed is the same tree with other places, drawn.
func placed[T any](x T, below func(int) int) T {
	out := copied(x)
	leaves(elem(&out), "", func(name string, v reflect.Value) {
		if name == "At" {
			v.SetInt([]int64{0, 1, -1, 7, most, most + 1, least, greatest, int64(below(1000))}[below(9)])
		}
	})
	return out
}

// turned is what a text is of one tree: of a strategy, or of an expression.
func turned(x any) (string, api.Errno) {
	switch x := x.(type) {
	case api.Node:
		return print.Expr(x)
	case api.Strategy:
		return print.Strategy(x)
	}
	panic("no tree")
}

// checked is what chapter 12 says of a tree.
func checked(x any) api.Errno {
	switch x := x.(type) {
	case api.Node:
		return tree.CheckExpr(x)
	case api.Strategy:
		return tree.Check(x)
	}
	panic("no tree")
}

// draw answers numbers that look drawn, and are the same each time.
func draw(from uint64) func(below int) int {
	return func(below int) int {
		from += 0x9e3779b97f4a7c15
		z := from
		z = (z ^ z>>30) * 0xbf58476d1ce4e5b9
		z = (z ^ z>>27) * 0x94d049bb133111eb
		return int((z ^ z>>31) % uint64(below))
	}
}

// repeat is several texts, one behind the other.
func repeat(s string, n int) string { return strings.Repeat(s, n) }
