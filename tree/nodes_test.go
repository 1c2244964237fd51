package tree_test

import (
	"slices"
	"strings"
	"testing"

	"tripwire/api"
	"tripwire/tree"
)

// samples has a node of each kind, NodeCall with one kid and with two.
func samples() []api.Node {
	return []api.Node{
		num(7), reg("lim"), field(api.FieldNow), has(api.FieldAsk), unary(api.OperNot, has(1)), binary(api.OperLe, num(1), num(2)),
		cond(has(1), num(1), num(2)), call(api.OperAbs, num(1)), call(api.OperMax, num(1), num(2)), conv(api.TypeQty, num(1)),
	}
}

// expectFormless tells whether an expression may not be, by all calls that ask.
func expectFormless(t *testing.T, n api.Node) {
	t.Helper()
	expectExpr(t, n, wrongForm)
	if l, d := tree.Level(n), tree.Depth(n); l != 0 || d != 0 {
		t.Errorf("level and depth of %s are %d, %d; want 0, 0", short(n), l, d)
	}
}

func TestKinds(t *testing.T) {
	expectFormless(t, api.Node{})
	for _, n := range samples() {
		expectExpr(t, n, api.OK)
		if l := tree.Level(n); l == 0 {
			t.Errorf("the level of %s is 0", short(n))
		}
		for kind := range 256 {
			x := n
			x.Kind = api.NodeKind(kind)
			// Of these two kinds one that is right is so as the other, too.
			if x.Kind == n.Kind || n.Kind == api.NodeHas && x.Kind == api.NodeField {
				continue
			}
			expectFormless(t, x)
		}
	}
}

func TestKindsAlone(t *testing.T) {
	for kind := range 256 {
		if api.NodeKind(kind) != api.NodeCond {
			expectFormless(t, api.Node{Kind: api.NodeKind(kind)})
		}
	}
	expectFormless(t, cond())
}

func TestFields(t *testing.T) {
	for f := range 256 {
		for _, x := range []struct {
			n    api.Node
			most int
		}{{field(api.Field(f)), 6}, {has(api.Field(f)), 3}} {
			if f >= 1 && f <= x.most {
				expectExpr(t, x.n, api.OK)
				expectNumbers(t, x.n, 8, 0, 1)
				continue
			}
			expectFormless(t, x.n)
		}
	}
}

func TestOpers(t *testing.T) {
	a := num(1)
	for o := range api.Oper(255) {
		for count, kids := range [][]api.Node{nil, {a}, {a, a}, {a, a, a}} {
			for _, x := range []struct {
				n     api.Node
				right bool
			}{
				{unary(o, kids...), count == 1 && o >= 1 && o <= 2},
				{binary(o, kids...), count == 2 && o >= 6 && o <= 18},
				{call(o, kids...), count == 1 && o == 3 || count == 2 && (o == 4 || o == 5)},
			} {
				if x.right {
					expectExpr(t, x.n, api.OK)
					continue
				}
				expectFormless(t, x.n)
			}
		}
	}
	for _, n := range []api.Node{unary(255, a), binary(255, a, a), call(255, a), call(255, a, a)} {
		expectFormless(t, n)
	}
}

func TestConversions(t *testing.T) {
	for to := range 256 {
		n := conv(api.Type(to), num(1))
		if to >= 1 && to <= 4 {
			expectExpr(t, n, api.OK)
			continue
		}
		expectFormless(t, n)
	}
}

func TestLiterals(t *testing.T) {
	numbers := []int64{least, least + 1, -2, -1, 0, 1, 2, 3, 255, 256, 257, 258, 1 << 32, greatest - 1, greatest}
	right := map[api.Type]func(int64) bool{
		5: func(n int64) bool { return n == 0 || n == 1 },
		6: func(n int64) bool { return n == 1 || n == 2 },
	}
	for to := api.Type(1); to <= 4; to++ {
		right[to] = func(n int64) bool { return n >= 0 }
	}
	for of := range 256 {
		for _, n := range numbers {
			x := lit(api.Type(of), n)
			if is := right[x.Type]; is != nil && is(n) {
				expectExpr(t, x, api.OK)
				expectNumbers(t, x, 8, 0, 1)
				continue
			}
			expectFormless(t, x)
		}
	}
}

func TestRegisters(t *testing.T) {
	for _, s := range []string{"a", "bids", "x2_y", "z_", "a0", "strategys", "regs", strings.Repeat("q", 16)} {
		expectExpr(t, reg(s), api.OK)
	}
	for _, s := range []string{
		"", "bid", "when", "strategy", "true", "int", strings.Repeat("q", 17), strings.Repeat("q", 5000), "a b", " a", "a ", "a\n", "a#", "#", "1", "1a", "_a", "A", "aB",
		"a-b", "+", "a.b", "\x00", "a\x00", "\xc8", "ä", "aä", "7q",
	} {
		expectFormless(t, reg(s))
	}
}

// What a kind does not name is nought, whatever else stands there.
func TestFieldsThatAreNotNamed(t *testing.T) {
	turns := map[string]func(n *api.Node, to int){
		"Oper":  func(n *api.Node, to int) { n.Oper = api.Oper(to) },
		"Type":  func(n *api.Node, to int) { n.Type = api.Type(to) },
		"N":     func(n *api.Node, to int) { n.N = int64(to) },
		"Field": func(n *api.Node, to int) { n.Field = api.Field(to) },
		"Name":  func(n *api.Node, to int) { n.Name = []string{"a", "bid", " "}[uint(to)%3] },
	}
	named := map[api.NodeKind]string{
		1: "Type N", 2: "Name", 3: "Field", 4: "Field", 5: "Oper", 6: "Oper", 7: "", 8: "Oper", 9: "Type",
	}
	for _, n := range samples() {
		for name, turn := range turns {
			if slices.Contains(strings.Fields(named[n.Kind]), name) {
				continue
			}
			for _, to := range []int{1, 2, 3, 4, 5, 6, 11, 18, 255, -1, least + 1, greatest} {
				x := n
				turn(&x, to)
				expectFormless(t, x)
			}
		}
	}
}

func TestKids(t *testing.T) {
	for _, n := range samples() {
		x := n
		x.Kids = append(slices.Clone(n.Kids), num(1))
		// A NodeCall's Oper tells how many.
		expectFormless(t, x)
		x.Kids = append(x.Kids, num(1))
		expectFormless(t, x)
		x.Kids = slices.Repeat([]api.Node{num(1)}, 256+len(n.Kids))
		expectFormless(t, x)
		if len(n.Kids) > 0 {
			x.Kids = n.Kids[:len(n.Kids)-1]
			expectFormless(t, x)
			x.Kids = nil
			expectFormless(t, x)
		}
		// A list that is empty is as good as none.
		if len(n.Kids) == 0 {
			x.Kids = []api.Node{}
			expectExpr(t, x, api.OK)
			x.Kids = []api.Node{num(1)}[:0]
			expectExpr(t, x, api.OK)
		}
	}
}

// all is an expression with a node of each kind and each Oper.
func all() api.Node {
	return expr("(has bid && !(a <= -2q) || abs(bid - 3p) > min(last, price(x2)) * 2 / 3 % 4 ? true : false == (max(1, 2) < 3) != (b >= 5t)) ? -(ask + 1p) : now - int(volume + open) == 1 ? buy : sell")
}

func TestAWrongNodeAtEachPlace(t *testing.T) {
	expectExpr(t, all(), api.OK)
	count := tree.Size(all())
	for i := range count {
		for _, wrong := range []api.Node{{}, {Kind: 10}, {Kind: 255}, num(-1), reg("bid"), field(7), has(4), unary(1), binary(5, num(1), num(2)), cond(num(1)), call(4, num(1)), conv(5, num(1))} {
			n := copied(all())
			*nodes(elem(&n))[i] = wrong
			expectFormless(t, n)
		}
	}
	if count < 50 {
		t.Errorf("only %d places", count)
	}
}

// A node that is wrong though its kids are right: each alone.
func TestAWrongFieldAtEachPlace(t *testing.T) {
	for i := range tree.Size(all()) {
		for _, turn := range []func(n *api.Node){
			func(n *api.Node) { n.Kind = 0 },
			func(n *api.Node) { n.Oper += 100 },
			func(n *api.Node) { n.Type += 100 },
			func(n *api.Node) { n.Field += 100 },
			func(n *api.Node) { n.Name += " " },
			func(n *api.Node) { n.N = least },
			func(n *api.Node) { n.Kids = append(n.Kids, num(1)) },
		} {
			n := copied(all())
			turn(nodes(elem(&n))[i])
			expectFormless(t, n)
		}
	}
}

func TestPlacesAreNotLookedAt(t *testing.T) {
	for _, at := range []int{least, -1, 0, 1, 4711, greatest} {
		for _, n := range append(samples(), all()) {
			want := tree.Depth(n)
			n = copied(n)
			for _, x := range nodes(elem(&n)) {
				x.At = at
			}
			expectExpr(t, n, api.OK)
			if d := tree.Depth(n); d != want {
				t.Errorf("with places %d the depth of %s is %d; want %d", at, short(n), d, want)
			}
		}
		expectFormless(t, placed(num(-1), at))
	}
}

func TestCheckingChangesNothing(t *testing.T) {
	for _, n := range []api.Node{all(), {}, binary(6, num(1), num(-1)), grown(num(1), 30, func(n api.Node) api.Node { return unary(1, n) })} {
		is, was := copied(n), copied(n)
		for range 2 {
			tree.CheckExpr(is)
			tree.Level(is)
			tree.Depth(is)
			tree.Size(is)
			tree.Reads(is)
			tree.BareExpr(is)
			tree.SameExpr(is, is)
			for range tree.All(is) {
			}
			expectKept(t, is, was)
		}
	}
}
