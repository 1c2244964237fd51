package tree_test

import (
	"math"
	"slices"
	"testing"

	"tripwire/api"
	"tripwire/tree"
)

const (
	wrongForm = api.ErrTreeForm
	tooMany   = api.ErrTreeMany
	tooDeep   = api.ErrTreeNest

	least, greatest = math.MinInt64, math.MaxInt64

	// deepest is how deep an expression may go.
	deepest = 24
)

func lit(t api.Type, n int64) api.Node { return api.Node{Kind: api.NodeLit, Type: t, N: n} }

func num(n int64) api.Node { return lit(api.TypeInt, n) }

func reg(name string) api.Node { return api.Node{Kind: api.NodeReg, Name: name} }

func field(f api.Field) api.Node { return api.Node{Kind: api.NodeField, Field: f} }

func has(f api.Field) api.Node { return api.Node{Kind: api.NodeHas, Field: f} }

func unary(o api.Oper, kids ...api.Node) api.Node {
	return api.Node{Kind: api.NodeUnary, Oper: o, Kids: kids}
}

func binary(o api.Oper, kids ...api.Node) api.Node {
	return api.Node{Kind: api.NodeBinary, Oper: o, Kids: kids}
}

func cond(kids ...api.Node) api.Node { return api.Node{Kind: api.NodeCond, Kids: kids} }

func call(o api.Oper, kids ...api.Node) api.Node {
	return api.Node{Kind: api.NodeCall, Oper: o, Kids: kids}
}

func conv(t api.Type, kids ...api.Node) api.Node {
	return api.Node{Kind: api.NodeConv, Type: t, Kids: kids}
}

// grown is a node within so many layers of another one.
func grown(n api.Node, layers int, layer func(api.Node) api.Node) api.Node {
	for range layers {
		n = layer(n)
	}
	return n
}

// smallest has nothing that a strategy need not have.
func smallest() api.Strategy {
	return api.Strategy{Name: "s", States: []api.State{{Name: "a"}}}
}

// ruled is a strategy of one rule.
func ruled(when api.Node, dos ...api.Do) api.Strategy {
	return api.Strategy{Name: "s", States: []api.State{{Name: "a", Rules: []api.Rule{{When: when, Dos: dos}}}}}
}

// doing is one whose rule does nothing but that.
func doing(d api.Do) api.Strategy { return ruled(has(1), d) }

// keeping is one of one register.
func keeping(r api.Reg) api.Strategy {
	s := smallest()
	s.Regs = []api.Reg{r}
	return s
}

func halt() api.Do { return api.Do{Kind: api.DoHalt} }

func expectExpr(t *testing.T, n api.Node, want api.Errno) {
	t.Helper()
	if no := tree.CheckExpr(n); no != want {
		t.Errorf("CheckExpr(%s) is %d; want %d", short(n), no, want)
	}
}

func expectCheck(t *testing.T, s api.Strategy, want api.Errno) {
	t.Helper()
	if no := tree.Check(s); no != want {
		t.Errorf("Check(%s) is %d; want %d", short(s), no, want)
	}
}

func expectNumbers(t *testing.T, n api.Node, level, depth, size int) {
	t.Helper()
	if l, d, z := tree.Level(n), tree.Depth(n), tree.Size(n); l != level || d != depth || z != size {
		t.Errorf("level, depth and size of %s are %d, %d, %d; want %d, %d, %d", short(n), l, d, z, level, depth, size)
	}
}

func expectReads(t *testing.T, n api.Node, fields api.Mask, names ...string) {
	t.Helper()
	if m, l := tree.Reads(n); m != fields || !slices.Equal(l, names) {
		t.Errorf("Reads(%s) is %d, %q; want %d, %q", short(n), m, l, fields, names)
	}
}

// TestExamples has the chapter's table, row by row.
func TestExamples(t *testing.T) {
	for _, x := range []struct {
		text               string
		level, depth, size int
	}{
		{"bid", 8, 0, 1},
		{"-1", 7, 1, 2},
		{"1 + 2 + 3", 5, 0, 5},
		{"1 + (2 + 3)", 5, 1, 5},
		{"(1 + 2) * 3", 6, 1, 5},
		{"a < b && !c", 3, 1, 6},
		{"min(a, -b)", 8, 2, 4},
		{"a ? b : c ? 1 : 2", 1, 2, 7},
		{"(a ? b : c) ? 1 : 2", 1, 2, 7},
		{"!(a && b)", 7, 2, 4},
	} {
		expectNumbers(t, expr(x.text), x.level, x.depth, x.size)
		expectExpr(t, expr(x.text), api.OK)
	}
}

// TestExamplesOfErrors has what the chapter tells below its table.
func TestExamplesOfErrors(t *testing.T) {
	expectExpr(t, lit(api.TypeBool, 2), wrongForm)
	expectExpr(t, reg("bid"), wrongForm)
	expectExpr(t, unary(api.OperNeg), wrongForm)
	named := field(api.FieldBid)
	named.Name = "a"
	expectExpr(t, named, wrongForm)

	bracket := func(n api.Node) api.Node { return binary(api.OperSub, num(1), n) }
	inner := expr("1 - 1")
	expectExpr(t, grown(inner, 24, bracket), api.OK)
	expectExpr(t, grown(inner, 25, bracket), tooDeep)

	s := smallest()
	s.States = nil
	expectCheck(t, s, wrongForm)
	s.States = slices.Repeat(smallest().States, 13)
	expectCheck(t, s, tooMany)

	expectReads(t, expr("has bid && bid > lim + n * lim"), 2, "lim", "n")
}

// TestDocumentsExamples has the strategy and the guards of DOC.md.
func TestDocumentsExamples(t *testing.T) {
	s := ruled(expr("has ask && n < 1"),
		api.Do{Kind: api.DoSubmit, Order: api.Limit, Name: "o", Side: expr("buy"), Qty: expr("2q"), Price: expr("ask")},
		api.Do{Kind: api.DoSet, Name: "n", Value: expr("n + 1")})
	s.Regs = []api.Reg{{Name: "n", Type: api.TypeInt, Init: expr("0")}}
	s.Slots = []api.Slot{{Name: "o"}}
	expectCheck(t, s, api.OK)

	for text, want := range map[string]struct {
		fields api.Mask
		names  []string
		depth  int
	}{
		"bid > 3p":              {fields: 2},
		"has bid && bid > 3p":   {fields: 2},
		"10 / n > 3 || has bid": {fields: 2, names: []string{"n"}},
		"has bid || 10 / n > 3": {fields: 2, names: []string{"n"}},
		"has ask && n < 1":      {fields: 4, names: []string{"n"}},
	} {
		expectExpr(t, expr(text), api.OK)
		expectReads(t, expr(text), want.fields, want.names...)
		if d := tree.Depth(expr(text)); d != want.depth {
			t.Errorf("Depth(%s) is %d", text, d)
		}
	}
}
