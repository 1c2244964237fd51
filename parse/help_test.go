package parse_test

import (
	"errors"
	"fmt"
	"math"
	"reflect"
	"strconv"
	"strings"
	"testing"

	"tripwire/api"
	"tripwire/parse"
	"tripwire/tree"
)

const (
	wrongToken = api.ErrParseToken
	tooMany    = api.ErrParseMany
	tooDeep    = api.ErrParseNest

	tooLong     = api.ErrLexLong
	wrongByte   = api.ErrLexByte
	wrongName   = api.ErrLexName
	wrongNumber = api.ErrLexNumber

	least, greatest = math.MinInt64, math.MaxInt64

	// most is how many bytes a text may have, deepest how deep it goes.
	most    = 4096
	deepest = 24
)

// The chapter's lists of chapter 11.
var (
	theWords = strings.Fields("abs amend as ask at bid bool buy cancel do false fok goto halt has int ioc last limit market max min now of open post price qty reg sell set side slot state strategy submit time to true volume when")
	theMarks = strings.Fields("{ } ( ) , ; ? : = == ! != < <= > >= + - * / % && ||")
)

// The tests write trees as texts: each node with its place, its kids behind it in brackets, a register's name with a $.

var (
	operTexts  = [19]string{"", "-", "!", "abs", "min", "max", "+", "-", "*", "/", "%", "==", "!=", "<", "<=", ">", ">=", "&&", "||"}
	typeTexts  = [7]string{"", "int", "qty", "price", "time", "bool", "side"}
	fieldTexts = [7]string{"", "bid", "ask", "last", "volume", "now", "open"}
	orderTexts = [6]string{"", "limit", "market", "ioc", "fok", "post"}
	doTexts    = [7]string{"", "submit", "amend", "cancel", "set", "goto", "halt"}
	letters    = [5]string{"", "", "q", "p", "t"}
)

func nodeText(n api.Node) string {
	switch n.Kind {
	case api.NodeLit:
		switch n.Type {
		case api.TypeBool:
			return strconv.FormatBool(n.N == 1)
		case api.TypeSide:
			return [3]string{"", "buy", "sell"}[n.N]
		}
		return strconv.FormatInt(n.N, 10) + letters[n.Type]
	case api.NodeReg:
		return "$" + n.Name
	case api.NodeField:
		return fieldTexts[n.Field]
	case api.NodeHas:
		return "has " + fieldTexts[n.Field]
	case api.NodeUnary, api.NodeBinary, api.NodeCall:
		return operTexts[n.Oper]
	case api.NodeCond:
		return "?"
	case api.NodeConv:
		return typeTexts[n.Type]
	}
	return "nothing"
}

func told(n api.Node) string {
	s := nodeText(n) + "@" + strconv.Itoa(n.At)
	for _, kid := range n.Kids {
		s += " " + told(kid)
	}
	if len(n.Kids) > 0 {
		s = "(" + s + ")"
	}
	return s
}

func toldDo(d api.Do) string {
	s := fmt.Sprint(doTexts[d.Kind], "@", d.At)
	if d.Order != 0 {
		s += " " + orderTexts[d.Order]
	}
	for _, n := range []api.Node{d.Side, d.Qty, d.Price, d.Value} {
		if n.Kind != 0 {
			s += " " + told(n)
		}
	}
	if d.Name != "" {
		s += " " + d.Name
	}
	return s
}

func toldRule(r api.Rule) string {
	s := fmt.Sprint("when@", r.At, " ", told(r.When), " do ")
	for i, d := range r.Dos {
		if i > 0 {
			s += ", "
		}
		s += toldDo(d)
	}
	return s + ";"
}

func toldStrategy(s api.Strategy) string {
	l := []string{s.Name}
	for _, r := range s.Regs {
		l = append(l, fmt.Sprint("reg@", r.At, " ", r.Name, " ", typeTexts[r.Type], " = ", told(r.Init), ";"))
	}
	for _, x := range s.Slots {
		l = append(l, fmt.Sprint("slot@", x.At, " ", x.Name, ";"))
	}
	for _, x := range s.States {
		l = append(l, fmt.Sprint("state@", x.At, " ", x.Name))
		for _, r := range x.Rules {
			l = append(l, toldRule(r))
		}
	}
	return strings.Join(l, " ")
}

// short is a text as a fault is told.
func short(s string) string {
	if len(s) > 300 {
		return s[:300] + ".."
	}
	return s
}

// expectFailure tells whether an error is made as the chapter says.
func expectFailure(t *testing.T, call, s string, err error, no api.Errno, at int) {
	t.Helper()
	f, is := err.(*api.Failure)
	if !is {
		t.Errorf("%s(%q) fails by %v; want %d at %d", call, short(s), err, no, at)
		return
	}
	want := api.Failure{Call: call, At: at, Err: no}
	if no >= api.ErrLexLong && no <= api.ErrLexNumber {
		want.Err = &api.Failure{Call: "Tokens", At: at, Err: no}
	}
	if !reflect.DeepEqual(*f, want) {
		t.Errorf("%s(%q) fails by %s at %d, %v; want %d at %d", call, short(s), f.Call, f.At, f.Err, no, at)
	}
	if got, place := parse.Wrong(err); got != no || place != at {
		t.Errorf("Wrong of %s(%q) is %d, %d; want %d, %d", call, short(s), got, place, no, at)
	}
}

func expectExpr(t *testing.T, s, want string) {
	t.Helper()
	n, err := parse.Expr(s)
	if err != nil || told(n) != want {
		t.Errorf("Expr(%q) is %s, %v; want %s", short(s), short(told(n)), err, short(want))
	}
	if no := tree.CheckExpr(n); no != api.OK && err == nil {
		t.Errorf("Expr(%q) may not be: %d", short(s), no)
	}
}

func expectNoExpr(t *testing.T, s string, no api.Errno, at int) {
	t.Helper()
	n, err := parse.Expr(s)
	if !reflect.DeepEqual(n, api.Node{}) {
		t.Errorf("Expr(%q) is %s; want noughts", short(s), short(told(n)))
	}
	expectFailure(t, "Expr", s, err, no, at)
}

func expectStrategy(t *testing.T, s, want string) {
	t.Helper()
	x, err := parse.Strategy(s)
	if err != nil || toldStrategy(x) != want {
		t.Errorf("Strategy(%q) is %s, %v; want %s", short(s), short(toldStrategy(x)), err, short(want))
	}
	if no := tree.Check(x); no != api.OK && err == nil {
		t.Errorf("Strategy(%q) may not be: %d", short(s), no)
	}
}

func expectNoStrategy(t *testing.T, s string, no api.Errno, at int) {
	t.Helper()
	x, err := parse.Strategy(s)
	if !reflect.DeepEqual(x, api.Strategy{}) {
		t.Errorf("Strategy(%q) is %s; want noughts", short(s), short(toldStrategy(x)))
	}
	expectFailure(t, "Strategy", s, err, no, at)
}

// fragment is a part of a strategy, with what must stand around it.
type fragment struct{ ahead, behind string }

var (
	inStrategy = fragment{"strategy s{", " state a{}}"}
	inReg      = fragment{"strategy s{reg ", ";state a{}}"}
	inState    = fragment{"strategy s{state a{", "}}"}
	inDo       = fragment{"strategy s{state a{when true do ", ";}}"}
)

// expect tells whether a strategy with the fragment in it has a part that is so, its places counted from the fragment's beginning.
func (f fragment) expect(t *testing.T, s, want string) {
	t.Helper()
	whole := f.ahead + s + f.behind
	x, err := parse.Strategy(whole)
	if err != nil {
		t.Errorf("Strategy(%q) fails: %v", whole, err)
		return
	}
	if got := toldStrategy(moved(x, -len(f.ahead))); !strings.Contains(got, " "+want) {
		t.Errorf("Strategy(%q) is %s; want %s in it", whole, got, want)
	}
	if no := tree.Check(x); no != api.OK {
		t.Errorf("Strategy(%q) may not be: %d", whole, no)
	}
}

func (f fragment) expectNo(t *testing.T, s string, no api.Errno, at int) {
	t.Helper()
	expectNoStrategy(t, f.ahead+s+f.behind, no, len(f.ahead)+at)
}

// moved is the same tree with all places moved by so much.
func moved[T any](x T, by int) T {
	leaves(reflect.ValueOf(&x).Elem(), "", func(name string, v reflect.Value) {
		if name == "At" {
			v.SetInt(v.Int() + int64(by))
		}
	})
	return x
}

// leaves hands each field of a tree that is no struct and no list, in order, and may change it.
func leaves(v reflect.Value, name string, see func(name string, v reflect.Value)) {
	switch v.Kind() {
	case reflect.Struct:
		for i := range v.NumField() {
			leaves(v.Field(i), v.Type().Field(i).Name, see)
		}
	case reflect.Slice:
		for i := range v.Len() {
			leaves(v.Index(i), "", see)
		}
	default:
		see(name, v)
	}
}

// Functions that make errors of other makes.

type wrapped struct {
	text  string
	inner error
}

func (w wrapped) Error() string { return w.text }

func (w wrapped) Unwrap() error { return w.inner }

// several wraps as many errors as there are, in order.
type several []error

func (s several) Error() string { return "several" }

func (s several) Unwrap() []error { return s }

// actor is an error that errors.As takes for another one, by its own word.
type actor struct{ plays error }

func (a actor) Error() string { return "actor" }

func (a actor) As(target any) bool {
	switch to := target.(type) {
	case *api.Errno:
		return errors.As(a.plays, to)
	case **api.Failure:
		return errors.As(a.plays, to)
	}
	return false
}

// draw answers numbers that look drawn, and are the same each time.
func draw(from uint64) func(below int) int {
	return func(below int) int {
		from += 0x9e3779b97f4a7c15
		z := from
		z = (z ^ z>>30) * 0xbf58476d1ce4e5b9
		z = (z ^ z>>27) * 0x94d049bb133111eb
		return int((z ^ z>>31) % uint64(below))
	}
}
