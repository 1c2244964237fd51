package parse_test

import (
	"reflect"
	"strings"
	"testing"

	"tripwire/parse"
)

// spoil changes all that can be changed of a tree, and what room there is behind its lists.
func spoil(v reflect.Value) {
	switch v.Kind() {
	case reflect.Struct:
		for i := range v.NumField() {
			spoil(v.Field(i))
		}
	case reflect.Slice:
		room := v.Slice(0, v.Cap())
		for i := range room.Len() {
			spoil(room.Index(i))
		}
	case reflect.String:
		v.SetString("spoilt")
	case reflect.Uint8:
		v.SetUint(99)
	default:
		v.SetInt(4711)
	}
}

// What comes out is its owner's: however it is changed, another tree of the same text, and one that is asked for later, is what it was.
func TestTreesChangedByTheirOwners(t *testing.T) {
	for _, seed := range seedExprs {
		one, _ := parse.Expr(seed)
		two, _ := parse.Expr(seed)
		want := told(two)
		spoil(reflect.ValueOf(&one).Elem())
		if told(two) != want {
			t.Errorf("%q: another tree has changed: %s", seed, told(two))
		}
		expectExpr(t, seed, want)
	}
	for _, seed := range seedStrategies {
		one, _ := parse.Strategy(seed)
		two, _ := parse.Strategy(seed)
		want := toldStrategy(two)
		spoil(reflect.ValueOf(&one).Elem())
		if toldStrategy(two) != want {
			t.Errorf("%q: another tree has changed: %s", seed, toldStrategy(two))
		}
		expectStrategy(t, seed, want)
	}
}

// No two lists of one tree share memory, nor the room behind them: each list is lengthened, and the rest stays as it was.
func TestListsOfOneTreeShareNothing(t *testing.T) {
	for _, seed := range seedStrategies {
		x, _ := parse.Strategy(seed)
		want := toldStrategy(x)
		lists(reflect.ValueOf(&x).Elem(), func(v reflect.Value) {
			room := v.Slice(0, v.Cap())
			for i := v.Len(); i < room.Len(); i++ {
				spoil(room.Index(i))
			}
		})
		if toldStrategy(x) != want {
			t.Errorf("%q: what lies behind a list is another's: %s", seed, toldStrategy(x))
		}
		expectApart(t, seed, reflect.ValueOf(&x).Elem())
	}
	for _, seed := range seedExprs {
		n, _ := parse.Expr(seed)
		expectApart(t, seed, reflect.ValueOf(&n).Elem())
	}
}

// expectApart tells whether no two lists of a tree lie in the same memory.
func expectApart(t *testing.T, seed string, v reflect.Value) {
	t.Helper()
	type span struct{ from, to uintptr }
	var all []span
	lists(v, func(v reflect.Value) {
		if v.Cap() == 0 {
			return
		}
		s := span{v.Pointer(), v.Pointer() + uintptr(v.Cap())*v.Type().Elem().Size()}
		for _, other := range all {
			if s.from < other.to && other.from < s.to {
				t.Errorf("%q: two lists share memory", seed)
			}
		}
		all = append(all, s)
	})
}

// lists hands each list of a tree.
func lists(v reflect.Value, see func(v reflect.Value)) {
	switch v.Kind() {
	case reflect.Struct:
		for i := range v.NumField() {
			lists(v.Field(i), see)
		}
	case reflect.Slice:
		see(v)
		for i := range v.Len() {
			lists(v.Index(i), see)
		}
	}
}

// A text that was refused, or read, says nothing of the next one; texts asked in any order, and at the same time, say the same.
func TestCallsKnowNothingOfOneAnother(t *testing.T) {
	deep := strings.Repeat("(", 24) + "1" + strings.Repeat(")", 24)
	for range 2 {
		expectNoExpr(t, "("+deep+")", tooDeep, 24)
		expectExpr(t, deep, "1@24")
		expectNoExpr(t, strings.Repeat("-", 24)+"1 2", wrongToken, 26)
		expectExpr(t, strings.Repeat("-", 3)+"1", "(-@0 (-@1 (-@2 1@3)))")
		expectNoStrategy(t, "strategy s{"+strings.Repeat("slot o;", 5), tooMany, 39)
		expectStrategy(t, "strategy s{slot o;state a{}}", "s slot@11 o; state@18 a")
		expectNoExpr(t, "1 &", wrongByte, 2)
		expectExpr(t, "1", "1@0")
	}
	done := make(chan bool)
	for range 4 {
		go func() {
			for range 100 {
				expectExpr(t, "a+b", "(+@1 $a@0 $b@2)")
				expectNoExpr(t, "a+", wrongToken, 2)
				expectStrategy(t, "strategy s{state a{}}", "s state@11 a")
			}
			done <- true
		}()
	}
	for range 4 {
		<-done
	}
}
