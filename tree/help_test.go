package tree_test

import (
	"fmt"
	"reflect"
	"testing"

	"tripwire/api"
	"tripwire/lex"
)

// The tests write expressions as chapter 13 reads them: what reads them here knows of right ones alone.

type operator struct {
	level int
	oper  api.Oper
}

var operators = map[string]operator{
	"||": {2, 18}, "&&": {3, 17},
	"==": {4, 11}, "!=": {4, 12}, "<": {4, 13}, "<=": {4, 14}, ">": {4, 15}, ">=": {4, 16},
	"+": {5, 6}, "-": {5, 7},
	"*": {6, 8}, "/": {6, 9}, "%": {6, 10},
}

var ones = map[string]api.Node{
	"true": lit(5, 1), "false": lit(5, 0), "buy": lit(6, 1), "sell": lit(6, 2),
	"bid": field(1), "ask": field(2), "last": field(3), "volume": field(4), "now": field(5), "open": field(6),
}

var calls = map[string]api.Node{
	"abs": call(3), "min": call(4), "max": call(5), "int": conv(1), "qty": conv(2), "price": conv(3), "time": conv(4),
}

type reader struct{ tokens []api.Token }

// expr is the tree of a text, with its places.
func expr(s string) api.Node {
	r := &reader{}
	for x := range lex.All(s) {
		r.tokens = append(r.tokens, x)
	}
	n := r.expr()
	if len(r.tokens) > 0 {
		panic(s)
	}
	return n
}

func (r *reader) next() string {
	if len(r.tokens) == 0 {
		return ""
	}
	return r.tokens[0].Text
}

func (r *reader) take() api.Token {
	x := r.tokens[0]
	r.tokens = r.tokens[1:]
	return x
}

func (r *reader) expr() api.Node {
	n := r.row(2)
	if r.next() != "?" {
		return n
	}
	at := r.take().At
	yes := r.expr()
	r.take()
	return placed(cond(n, yes, r.expr()), at)
}

func (r *reader) row(level int) api.Node {
	if level == 7 {
		return r.unary()
	}
	n := r.row(level + 1)
	for {
		o := operators[r.next()]
		if o.level != level {
			return n
		}
		at := r.take().At
		n = placed(binary(o.oper, n, r.row(level+1)), at)
	}
}

func (r *reader) unary() api.Node {
	o := map[string]api.Oper{"-": 1, "!": 2}[r.next()]
	if o == 0 {
		return r.one()
	}
	at := r.take().At
	return placed(unary(o, r.unary()), at)
}

func (r *reader) one() api.Node {
	x := r.take()
	if n, is := ones[x.Text]; is {
		return placed(n, x.At)
	}
	if n, is := calls[x.Text]; is {
		for r.next() != ")" {
			r.take()
			n.Kids = append(n.Kids, r.expr())
		}
		r.take()
		return placed(n, x.At)
	}
	switch {
	case x.Text == "(":
		n := r.expr()
		r.take()
		return n
	case x.Text == "has":
		return placed(has(ones[r.take().Text].Field), x.At)
	case x.Kind == api.TokenNumber:
		return placed(lit(x.Type, x.N), x.At)
	case x.Kind == api.TokenName:
		return placed(reg(x.Text), x.At)
	}
	panic(x.Text)
}

func placed(n api.Node, at int) api.Node {
	n.At = at
	return n
}

// short is a tree as a fault is told.
func short(x any) string {
	s := fmt.Sprintf("%+v", x)
	if len(s) > 300 {
		return s[:300] + ".."
	}
	return s
}

// copied is a tree with memory of its own: behind each of its lists there is room in which a wrong part stands.
func copied[T any](x T) T {
	return deepCopy(reflect.ValueOf(x)).Interface().(T)
}

func deepCopy(v reflect.Value) reflect.Value {
	out := reflect.New(v.Type()).Elem()
	switch v.Kind() {
	case reflect.Struct:
		for i := range v.NumField() {
			out.Field(i).Set(deepCopy(v.Field(i)))
		}
	case reflect.Slice:
		if v.IsNil() {
			break
		}
		room := reflect.MakeSlice(v.Type(), v.Len()+1, v.Len()+1)
		for i := range v.Len() {
			room.Index(i).Set(deepCopy(v.Index(i)))
		}
		room.Index(v.Len()).Set(behind(v.Type().Elem()))
		out.Set(room.Slice(0, v.Len()))
	default:
		out.Set(v)
	}
	return out
}

// behind is the wrong part that stands behind a list.
func behind(t reflect.Type) reflect.Value {
	out := reflect.New(t).Elem()
	out.FieldByName("At").SetInt(4711)
	return out
}

// leaves hands each field of a tree that is no struct and no list, in order, and may change it: of a copy.
func leaves(v reflect.Value, name string, see func(name string, v reflect.Value)) {
	switch v.Kind() {
	case reflect.Struct:
		for i := range v.NumField() {
			leaves(v.Field(i), v.Type().Field(i).Name, see)
		}
	case reflect.Slice:
		for i := range v.Len() {
			leaves(v.Index(i), "", see)
		}
	default:
		see(name, v)
	}
}

// lists hands each list of a tree.
func lists(v reflect.Value, see func(v reflect.Value)) {
	switch v.Kind() {
	case reflect.Struct:
		for i := range v.NumField() {
			lists(v.Field(i), see)
		}
	case reflect.Slice:
		see(v)
		for i := range v.Len() {
			lists(v.Index(i), see)
		}
	}
}

// nodes are all nodes of a tree, node by node in order, to be changed: of a copy.
func nodes(v reflect.Value) []*api.Node {
	var all []*api.Node
	if v.Type() == reflect.TypeFor[api.Node]() {
		all = append(all, v.Addr().Interface().(*api.Node))
	}
	switch v.Kind() {
	case reflect.Struct:
		for i := range v.NumField() {
			all = append(all, nodes(v.Field(i))...)
		}
	case reflect.Slice:
		for i := range v.Len() {
			all = append(all, nodes(v.Index(i))...)
		}
	}
	return all
}

// elem is what a pointer points to, as it is gone through above.
func elem(p any) reflect.Value { return reflect.ValueOf(p).Elem() }

// expectKept tells whether what was handed in is still what it was: was is a copy of it, as copied makes it.
func expectKept[T any](t *testing.T, is, was T) {
	t.Helper()
	if !reflect.DeepEqual(is, was) {
		t.Errorf("%s was changed; it was %s", short(is), short(was))
	}
	lists(elem(&is), func(v reflect.Value) {
		if v.Cap() == v.Len() {
			return
		}
		if !reflect.DeepEqual(v.Slice(0, v.Len()+1).Index(v.Len()).Interface(), behind(v.Type().Elem()).Interface()) {
			t.Errorf("what lies behind a list of %s was changed", short(is))
		}
	})
}

// draw answers numbers that look drawn, and are the same each time.
func draw(from uint64) func(below int) int {
	return func(below int) int {
		from += 0x9e3779b97f4a7c15
		z := from
		z = (z ^ z>>30) * 0xbf58476d1ce4e5b9
		z = (z ^ z>>27) * 0x94d049bb133111eb
		return int((z ^ z>>31) % uint64(below))
	}
}
