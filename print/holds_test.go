package print_test

import (
	"reflect"
	"testing"

	"tripwire/api"
	"tripwire/parse"
	"tripwire/print"
	"tripwire/tree"
)

// The tests of this file hold the calls against the model, and look whether the rows of 'What holds' do.

// expectModel tells whether a tree is turned as the model says: the model knows chapter 12's errors by the calls of tree alone.
func expectModel[T any](t *testing.T, x T, model func(T) string) api.Errno {
	t.Helper()
	s, no := turned(x)
	want, code := "", checked(x)
	if code == api.OK {
		want = model(x)
	}
	if len(want) > most {
		want, code = "", tooLong
	}
	if s != want || no != code {
		t.Errorf("%q, %d; want %q, %d", short(s), no, short(want), code)
	}
	return no
}

func expectCounts(t *testing.T, counts, want map[api.Errno]int) {
	t.Helper()
	for no, n := range want {
		if counts[no] < n {
			t.Errorf("%d was reached %d times; want %d", no, counts[no], n)
		}
	}
}

func TestDrawnExpressions(t *testing.T) {
	d := drawer{draw(1)}
	counts := map[api.Errno]int{}
	for i := range 20000 {
		counts[expectModel(t, d.expr(1+d.below(1+i%60)), modelExpr)]++
	}
	for range 200 {
		counts[expectModel(t, row(api.Oper(6+d.below(5)), d.expr(3), d.expr(60), 5+d.below(60)), modelExpr)]++
		counts[expectModel(t, grown(d.expr(3), 20+d.below(25), d.within), modelExpr)]++
	}
	expectCounts(t, counts, map[api.Errno]int{api.OK: 15000, tooDeep: 50, tooLong: 50})
}

func TestDrawnStrategies(t *testing.T) {
	d := drawer{draw(2)}
	counts := map[api.Errno]int{}
	for range 3000 {
		counts[expectModel(t, d.strategy(), modelStrategy)]++
	}
	expectCounts(t, counts, map[api.Errno]int{api.OK: 1500, tooLong: 50})
}

// THERE AND BACK: what is read of a tree's text is the tree, but for places.
func TestThereAndBack(t *testing.T) {
	d := drawer{draw(3)}
	exprs, strategies := 0, 0
	for range 4000 {
		n := d.expr(1 + d.below(50))
		if s, no := print.Expr(n); no == api.OK {
			exprs++
			back, err := parse.Expr(s)
			if err != nil || !tree.SameExpr(back, n) || !reflect.DeepEqual(tree.BareExpr(back), tree.BareExpr(n)) {
				t.Errorf("%q does not come back: %v", s, err)
			}
		}
	}
	for range 1500 {
		x := d.strategy()
		if s, no := print.Strategy(x); no == api.OK {
			strategies++
			back, err := parse.Strategy(s)
			if err != nil || !tree.Same(back, x) || !reflect.DeepEqual(tree.Bare(back), tree.Bare(x)) {
				t.Errorf("%q does not come back: %v", s, err)
			}
		}
	}
	if exprs < 3000 || strategies < 700 {
		t.Errorf("only %d and %d", exprs, strategies)
	}
}

// ONE TEXT: what is the same but for places has the same text.
func TestPlacesAreNotLookedAt(t *testing.T) {
	d := drawer{draw(4)}
	for range 1500 {
		n := d.expr(1 + d.below(30))
		s, no := print.Expr(n)
		if s2, no2 := print.Expr(placed(n, d.below)); s2 != s || no2 != no {
			t.Errorf("%q, %d; with other places %q, %d", s, no, s2, no2)
		}
	}
	for range 500 {
		x := d.strategy()
		s, no := print.Strategy(x)
		if s2, no2 := print.Strategy(placed(x, d.below)); s2 != s || no2 != no {
			t.Errorf("%q, %d; with other places %q, %d", s, no, s2, no2)
		}
	}
}

// Unlike trees have unlike texts: all small ones, of these leaves.
func TestAllSmallExpressions(t *testing.T) {
	leaves := []api.Node{
		num(0), num(1), num(greatest), lit(2, 0), lit(2, 1), lit(3, 0), lit(3, 1), lit(4, 0), lit(4, 1), lit(5, 0), lit(5, 1), lit(6, 1), lit(6, 2),
		reg("a"), reg("b"), reg("q"), reg(longName), field(1), field(2), field(3), field(4), field(5), field(6), has(1), has(2), has(3),
	}
	met := map[string]api.Node{}
	see := func(n api.Node) {
		s, no := print.Expr(n)
		if no != api.OK {
			t.Fatalf("%s is refused: %d", short(n), no)
		}
		if other, is := met[s]; is {
			t.Errorf("%q is the text of %s, and of %s", s, short(n), short(other))
		}
		met[s] = n
	}
	var ones []api.Node
	for _, a := range leaves {
		see(a)
		ones = append(ones, unary(1, a), unary(2, a), call(3, a), conv(1, a), conv(2, a), conv(3, a), conv(4, a))
	}
	for _, n := range ones {
		see(n)
		see(unary(1, n))
		see(unary(2, n))
		see(call(3, n))
	}
	for _, a := range leaves {
		for _, b := range leaves {
			for o := api.OperAdd; o <= api.OperOr; o++ {
				see(binary(o, a, b))
			}
			see(call(4, a, b))
			see(call(5, a, b))
			see(cond(a, b, a))
			see(unary(1, binary(7, a, b)))
			see(binary(7, unary(1, a), b))
			see(binary(7, a, unary(1, b)))
		}
	}
	a, b, c := reg("a"), reg("b"), reg("c")
	for o := api.OperAdd; o <= api.OperOr; o++ {
		for p := api.OperAdd; p <= api.OperOr; p++ {
			see(binary(o, binary(p, a, b), c))
			see(binary(o, a, binary(p, b, c)))
		}
	}
	if len(met) < 10000 {
		t.Errorf("only %d", len(met))
	}
}

// seeds are strategies that have each kind of part.
func seeds() []api.Strategy {
	var all []api.Strategy
	for _, s := range []string{
		"strategy s { reg n int = 1; reg m bool = true; reg l side = sell; slot o; slot p; state a { when a < b do halt; } state b { } }",
		"strategy s { reg n qty = -1q; state a { when true do submit buy of 1q market, submit sell of -n at bid + 1p limit as o, halt; } }",
		"strategy s { slot o; state a { when has ask do amend o to 2q at 3p, cancel o, set n = min(n, 2), goto a; when m ? k : l do submit x of y at z ioc; } }",
		"strategy s { reg a price = 2p; reg b time = 3t; state c { when !a do submit x of y at z fok, submit x of y at z post as w, submit x of y market as w; } }",
		"strategy s { state a { when abs(a + b) * (c - d) > int(volume) || has bid && now >= 5t do set n = a ? b : c, halt; when (a < b) == (c < d) do halt; } }",
	} {
		x, err := parse.Strategy(s)
		if err != nil {
			panic(s)
		}
		all = append(all, x)
	}
	return all
}

// others are values to put in the place of a field's own.
func others(v reflect.Value) []reflect.Value {
	var all []reflect.Value
	put := func(x any) { all = append(all, reflect.ValueOf(x).Convert(v.Type())) }
	switch v.Kind() {
	case reflect.String:
		for _, s := range []string{"", "a", "z", "bid", "A", "a b", longName, longName + "q", "1", "a\n", "\xff"} {
			put(s)
		}
	case reflect.Uint8:
		for n := range 256 {
			put(uint8(n))
		}
	default:
		for _, n := range []int64{0, 1, 2, 3, -1, 7, greatest, least} {
			put(n)
		}
	}
	return all
}

// Each field of a tree changed to others: a tree that may be has another text, unless it is a place that has changed; one that may not be has none.
func TestEachFieldChanged(t *testing.T) {
	counts := map[api.Errno]int{}
	for _, seed := range seeds() {
		s, _ := print.Strategy(seed)
		x := copied(seed)
		leaves(elem(&x), "", func(name string, v reflect.Value) {
			was := reflect.ValueOf(v.Interface())
			for _, other := range others(v) {
				if other.Interface() == was.Interface() {
					continue
				}
				v.Set(other)
				got, no := print.Strategy(x)
				counts[no]++
				switch {
				case no != tree.Check(x):
					t.Errorf("%q with %s %v: %d; want %d", s, name, other, no, tree.Check(x))
				case no != api.OK && got != "", no == api.OK && (got == s) != (name == "At"):
					t.Errorf("%q with %s %v: %q, %d", s, name, other, got, no)
				case no == api.OK && got != modelStrategy(x):
					t.Errorf("%q with %s %v: %q; want %q", s, name, other, got, modelStrategy(x))
				}
			}
			v.Set(was)
		})
	}
	expectCounts(t, counts, map[api.Errno]int{api.OK: 1000, wrongForm: 10000})
}

// Each list of a tree cut by one, or with its first part once more: of what may be, another text.
func TestEachListChanged(t *testing.T) {
	counts := map[api.Errno]int{}
	for _, seed := range seeds() {
		s, _ := print.Strategy(seed)
		x := copied(seed)
		lists(elem(&x), func(v reflect.Value) {
			was := reflect.ValueOf(v.Interface())
			if was.Len() == 0 {
				return
			}
			for _, other := range []reflect.Value{was.Slice(0, was.Len()-1), was.Slice(1, was.Len()), reflect.Append(was.Slice3(0, was.Len(), was.Len()), was.Index(0))} {
				v.Set(other)
				got, no := print.Strategy(x)
				counts[no]++
				if no != tree.Check(x) || got == s || no == api.OK && got != modelStrategy(x) || no != api.OK && got != "" {
					t.Errorf("%q: %q, %d", s, got, no)
				}
			}
			v.Set(was)
		})
	}
	expectCounts(t, counts, map[api.Errno]int{api.OK: 30, wrongForm: 50})
}

// bracketsOfKids are the places of each bracket that stands around a kid, and of the one that closes it: that of a call stands right behind its word.
func bracketsOfKids(s string) [][2]int {
	var all [][2]int
	var open []int
	for i := range len(s) {
		switch s[i] {
		case '(':
			open = append(open, i)
		case ')':
			from := open[len(open)-1]
			open = open[:len(open)-1]
			if from == 0 || s[from-1] < 'a' || s[from-1] > 'z' {
				all = append(all, [2]int{from, i})
			}
		}
	}
	return all
}

// expectBracketsNeeded tells how many brackets an expression's text has, and whether without any of them it is another one's, or no text at all.
func expectBracketsNeeded(t *testing.T, n api.Node) int {
	t.Helper()
	s, _ := print.Expr(n)
	all := bracketsOfKids(s)
	for _, p := range all {
		less := s[:p[0]] + s[p[0]+1:p[1]] + s[p[1]+1:]
		if other, err := parse.Expr(less); err == nil && tree.SameExpr(other, n) {
			t.Errorf("%q has brackets too many: %q", s, less)
		}
	}
	return len(all)
}

// NO BRACKET TOO MANY.
func TestNoBracketTooMany(t *testing.T) {
	d := drawer{draw(5)}
	count := 0
	for range 5000 {
		n := d.expr(1 + d.below(40))
		if tree.CheckExpr(n) == api.OK {
			count += expectBracketsNeeded(t, n)
		}
	}
	if count < 5000 {
		t.Errorf("only %d", count)
	}
}

// Brackets that are not needed, blanks and remarks leave the text as it is: as that of an expression, and as what Tidy says.
func TestTextsOfTheSameTree(t *testing.T) {
	d := drawer{draw(6)}
	more := func() bool { return d.below(6) == 0 }
	exprs, strategies := 0, 0
	for range 3000 {
		n := d.expr(1 + d.below(40))
		back, err := parse.Expr(strewn(exprTokens(n, more), d.below))
		if err != nil {
			continue
		}
		exprs++
		if s, no := print.Expr(back); s != modelExpr(n) || no != api.OK {
			t.Errorf("%q, %d; want %q", s, no, modelExpr(n))
		}
	}
	for range 2000 {
		x := d.strategy()
		s := strewn(strategyTokens(x, more), d.below)
		if _, err := parse.Strategy(s); err != nil || len(modelStrategy(x)) > most {
			continue
		}
		strategies++
		expectTidy(t, s, modelStrategy(x))
		expectTidy(t, modelStrategy(x), modelStrategy(x))
	}
	if exprs < 2000 || strategies < 800 {
		t.Errorf("only %d and %d", exprs, strategies)
	}
}
