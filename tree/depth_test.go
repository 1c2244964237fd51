package tree_test

import (
	"testing"

	"tripwire/api"
	"tripwire/tree"
)

// levelled has nodes of each level, those of level l at l-1.
func levelled() [][]api.Node {
	a, b := num(1), num(2)
	out := make([][]api.Node, 8)
	out[0] = []api.Node{cond(has(1), a, b)}
	for o, level := range map[api.Oper]int{
		6: 5, 7: 5, 8: 6, 9: 6, 10: 6, 11: 4, 12: 4, 13: 4, 14: 4, 15: 4, 16: 4, 17: 3, 18: 2,
	} {
		out[level-1] = append(out[level-1], binary(o, a, b))
	}
	out[6] = []api.Node{unary(1, a), unary(2, a)}
	out[7] = []api.Node{lit(5, 1), reg("a"), field(6), has(1), call(3, a), call(4, a, b), call(5, a, b), conv(1, a), conv(4, a)}
	return out
}

func TestLevels(t *testing.T) {
	for i, l := range levelled() {
		for _, n := range l {
			if level := tree.Level(n); level != i+1 {
				t.Errorf("Level(%s) is %d; want %d", short(n), level, i+1)
			}
		}
	}
}

// parent is a node with places for kids: what each place asks for, and what it makes deeper by itself.
type parent struct {
	n    api.Node
	asks []int
	down []int
}

func parents() []parent {
	a := num(1)
	all := []parent{
		{cond(a, a, a), []int{2, 1, 1}, []int{0, 1, 1}},
		{unary(1, a), []int{7}, []int{1}},
		{unary(2, a), []int{7}, []int{1}},
		{call(3, a), []int{1}, []int{1}},
		{call(4, a, a), []int{1, 1}, []int{1, 1}},
		{call(5, a, a), []int{1, 1}, []int{1, 1}},
		{conv(1, a), []int{1}, []int{1}},
		{conv(2, a), []int{1}, []int{1}},
		{conv(3, a), []int{1}, []int{1}},
		{conv(4, a), []int{1}, []int{1}},
	}
	for o, asks := range map[api.Oper][]int{
		18: {2, 3}, 17: {3, 4}, 11: {5, 5}, 12: {5, 5}, 13: {5, 5}, 14: {5, 5}, 15: {5, 5}, 16: {5, 5}, 6: {5, 6}, 7: {5, 6}, 8: {6, 7}, 9: {6, 7}, 10: {6, 7},
	} {
		all = append(all, parent{binary(o, a, a), asks, []int{0, 0}})
	}
	return all
}

// own is the depth of a kid as levelled makes it.
func own(kid api.Node) int {
	switch kid.Kind {
	case api.NodeCond, api.NodeUnary, api.NodeCall, api.NodeConv:
		return 1
	}
	return 0
}

func TestPairsOfNodes(t *testing.T) {
	pairs := 0
	for _, p := range parents() {
		for place := range p.asks {
			for i, l := range levelled() {
				for _, kid := range l {
					n := copied(p.n)
					n.Kids[place] = kid
					want := own(kid) + p.down[place]
					if i+1 < p.asks[place] {
						want++
					}
					// The other kids of p are literals: of no depth, but where their places make them deeper.
					for j, down := range p.down {
						if j != place {
							want = max(want, down)
						}
					}
					if d := tree.Depth(n); d != want {
						t.Errorf("Depth(%s) is %d; want %d", short(n), d, want)
					}
					expectExpr(t, n, api.OK)
					pairs++
				}
			}
		}
	}
	if pairs < 1000 {
		t.Errorf("only %d pairs", pairs)
	}
}

// layers are ways to make an expression deeper by one; each may stand in each place of each.
var layers = map[string]func(n api.Node) api.Node{
	"brackets":            func(n api.Node) api.Node { return binary(api.OperSub, num(1), n) },
	"brackets ahead":      func(n api.Node) api.Node { return binary(api.OperEq, n, num(1)) },
	"brackets behind":     func(n api.Node) api.Node { return binary(api.OperLt, num(1), n) },
	"brackets of and":     func(n api.Node) api.Node { return binary(api.OperAnd, has(1), n) },
	"brackets of or":      func(n api.Node) api.Node { return binary(api.OperOr, has(1), n) },
	"brackets of product": func(n api.Node) api.Node { return binary(api.OperMod, num(1), n) },
	"brackets of asked":   func(n api.Node) api.Node { return cond(n, num(1), num(2)) },
	"minus":               func(n api.Node) api.Node { return unary(api.OperNeg, n) },
	"not":                 func(n api.Node) api.Node { return unary(api.OperNot, n) },
	"abs":                 func(n api.Node) api.Node { return call(api.OperAbs, n) },
	"min":                 func(n api.Node) api.Node { return call(api.OperMin, n, num(1)) },
	"min behind":          func(n api.Node) api.Node { return call(api.OperMin, num(1), n) },
	"max":                 func(n api.Node) api.Node { return call(api.OperMax, n, num(1)) },
	"max behind":          func(n api.Node) api.Node { return call(api.OperMax, num(1), n) },
	"conversion":          func(n api.Node) api.Node { return conv(api.TypePrice, n) },
	"if so":               func(n api.Node) api.Node { return cond(has(1), n, num(1)) },
	"if not":              func(n api.Node) api.Node { return cond(has(1), num(1), n) },
}

func expectDepth(t *testing.T, n api.Node, depth int) {
	t.Helper()
	if d := tree.Depth(n); d != depth {
		t.Errorf("Depth(%s) is %d; want %d", short(n), d, depth)
	}
	want := api.OK
	if depth > deepest {
		want = tooDeep
	}
	expectExpr(t, n, want)
	if l := tree.Level(n); l == 0 {
		t.Errorf("the level of %s, %d deep, is 0", short(n), depth)
	}
}

func TestDepths(t *testing.T) {
	for name, layer := range layers {
		from := layer(num(1))
		base := tree.Depth(from)
		if base > 1 {
			t.Fatalf("%s begins at %d", name, base)
		}
		for _, depth := range []int{1, 2, 22, 23, 24, 25, 26, 48, 100, 1000} {
			expectDepth(t, grown(from, depth-base, layer), depth)
		}
	}
}

// Brackets within what is deeper by itself count twice.
func TestDepthsOfTwo(t *testing.T) {
	// -(-(1 + 1) + 1): the minus within binds more tightly than the sum whose kid it is.
	minus := func(n api.Node) api.Node { return unary(1, binary(6, n, num(1))) }
	for layers := range 16 {
		expectDepth(t, grown(num(1), layers, minus), 2*layers)
	}
	not := func(n api.Node) api.Node { return unary(2, cond(n, num(1), num(2))) }
	expectDepth(t, not(num(1)), 3)
	expectDepth(t, not(not(num(1))), 5)
}

func TestDepthsMixed(t *testing.T) {
	names := []string{"minus", "abs", "conversion", "if so", "if not", "min behind", "max"}
	below := draw(7)
	for range 200 {
		n, depth := num(1), 0
		size := below(40)
		for range size {
			layer := layers[names[below(len(names))]]
			before := n
			n = layer(n)
			depth++
			// A minus asks for brackets around a condition.
			if n.Kind == api.NodeUnary && before.Kind == api.NodeCond {
				depth++
			}
		}
		expectDepth(t, n, depth)
	}
}

func TestTheDeepestKidCounts(t *testing.T) {
	minus := layers["minus"]
	for i := range 3 {
		for _, depth := range []int{22, 23, 24} {
			kids := []api.Node{grown(num(1), 3, minus), grown(num(1), 3, minus), grown(num(1), 3, minus)}
			kids[i] = grown(num(1), depth, minus)
			want := depth
			if i > 0 {
				want++
			}
			expectDepth(t, cond(kids...), want)
			if i < 2 {
				expectDepth(t, binary(8, kids[:2]...), depth)
				expectDepth(t, call(4, kids[:2]...), depth+1)
			}
		}
	}
}

// What stands one behind the other without brackets is no deeper for its length.
func TestLongRows(t *testing.T) {
	row := func(o api.Oper, first, other api.Node, count int) api.Node {
		return grown(first, count, func(n api.Node) api.Node { return binary(o, n, other) })
	}
	for _, count := range []int{1, 24, 25, 26, 1000, 30000} {
		for _, o := range []api.Oper{6, 7, 8, 9, 10, 17, 18} {
			n := row(o, num(1), num(2), count)
			expectDepth(t, n, 0)
			expectNumbers(t, n, map[api.Oper]int{6: 5, 7: 5, 8: 6, 9: 6, 10: 6, 17: 3, 18: 2}[o], 0, 2*count+1)
		}
		// A row whose parts are rows that bind more tightly.
		products := row(api.OperMul, num(1), num(2), 10)
		expectDepth(t, row(api.OperAdd, products, products, count/10), 0)
		conditions := row(api.OperAdd, cond(has(1), num(1), num(2)), cond(has(1), num(1), num(2)), count)
		expectDepth(t, conditions, 2)
		expectDepth(t, row(api.OperOr, has(1), binary(api.OperAnd, has(1), has(2)), count), 0)
		// A row that is asked stays as deep as it is, however long.
		expectDepth(t, cond(row(api.OperOr, has(1), has(2), count), num(1), num(2)), 1)
		expectDepth(t, cond(has(1), row(api.OperSub, num(1), num(1), count), row(api.OperSub, num(1), num(1), count)), 1)
	}
}

func TestTooDeepAndWrongBesides(t *testing.T) {
	wrong := reg("bid")
	for name, layer := range layers {
		deep := grown(layer(num(1)), 40, layer)
		expectExpr(t, deep, tooDeep)
		for _, n := range []api.Node{
			grown(layer(wrong), 40, layer),
			binary(6, deep, wrong), binary(6, wrong, deep),
			call(4, deep, wrong), cond(wrong, deep, deep), cond(deep, deep, wrong),
			grown(binary(6, wrong, deep), 10, layer), grown(binary(6, deep, wrong), 10, layer),
			unary(3, deep), binary(5, deep, deep), conv(5, deep), call(3, deep, deep),
		} {
			if tree.CheckExpr(n) != wrongForm {
				t.Errorf("by %s", name)
			}
			expectFormless(t, n)
		}
		both := binary(6, deep, deep)
		expectExpr(t, both, tooDeep)
		both.Name = "a"
		expectFormless(t, both)
	}
}

// As deep as trees may be nested at all.
func TestVeryDeep(t *testing.T) {
	const far = 65000
	for _, name := range []string{"brackets", "minus", "if not", "min"} {
		layer := layers[name]
		base := layer(num(1))
		n := grown(base, far, layer)
		if d := tree.Depth(n); d != far+tree.Depth(base) {
			t.Errorf("%d layers of %s are %d deep", far, name, d)
		}
		expectExpr(t, n, tooDeep)
		step := tree.Size(layer(num(1))) - 1
		if z := tree.Size(n); z != 1+step*(far+1) {
			t.Errorf("%d layers of %s have %d nodes", far, name, z)
		}
		if b := tree.BareExpr(n); !tree.SameExpr(b, n) || !tree.SameExpr(n, b) {
			t.Errorf("%d layers of %s are not the same as they are without places", far, name)
		}
		if m, l := tree.Reads(n); m&^2 != 0 || len(l) != 0 {
			t.Errorf("%d layers of %s read %d, %q", far, name, m, l)
		}
		other := grown(layer(num(2)), far, layer)
		if tree.SameExpr(other, n) {
			t.Errorf("%d layers of %s are the same as those of another literal", far, name)
		}
		expectFormless(t, grown(layer(num(-1)), far, layer))
		s := doing(api.Do{Kind: api.DoSet, Name: "a", Value: n})
		expectCheck(t, s, tooDeep)
		if !tree.Same(tree.Bare(s), s) {
			t.Errorf("%d layers of %s as a strategy's", far, name)
		}
	}
}
