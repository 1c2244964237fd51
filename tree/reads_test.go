package tree_test

import (
	"iter"
	"reflect"
	"slices"
	"strconv"
	"testing"

	"tripwire/api"
	"tripwire/tree"
)

func TestReadsOfEachField(t *testing.T) {
	for f := range 256 {
		want := api.Mask(0)
		if f < 16 {
			want = 1 << f
		}
		for _, n := range []api.Node{field(api.Field(f)), has(api.Field(f))} {
			expectReads(t, n, want)
			expectReads(t, unary(1, n), want)
			expectReads(t, binary(6, field(3), n), want|8)
			expectReads(t, cond(n, n, has(api.Field(f))), want)
		}
	}
}

// Fields and names at nodes of other kinds are read by nobody.
func TestReadsOfOtherKinds(t *testing.T) {
	for kind := range 256 {
		n := api.Node{Kind: api.NodeKind(kind), Field: 2, Name: "a"}
		switch n.Kind {
		case api.NodeReg:
			expectReads(t, n, 0, "a")
		case api.NodeField, api.NodeHas:
			expectReads(t, n, 4)
		default:
			expectReads(t, n, 0)
			n.Kids = []api.Node{reg("b"), field(1)}
			expectReads(t, n, 2, "b")
		}
	}
}

func TestReadsOfRegisters(t *testing.T) {
	for text, want := range map[string][]string{
		"1":                                 nil,
		"a":                                 {"a"},
		"a + a":                             {"a"},
		"a + b":                             {"a", "b"},
		"b + a":                             {"b", "a"},
		"b + a + b":                         {"b", "a"},
		"a ? b : c":                         {"a", "b", "c"},
		"c ? b : a":                         {"c", "b", "a"},
		"-a * (b - max(c, a)) / d % int(e)": {"a", "b", "c", "d", "e"},
		"!(z && y || x) && y":               {"z", "y", "x"},
	} {
		expectReads(t, expr(text), 0, want...)
	}
	expectReads(t, expr("bid + ask + last + volume + now + open"), 126)
	expectReads(t, expr("has last ? bid : n"), 10, "n")
}

// Of any expression: names that may not be, a register's kids, whatever has no form.
func TestReadsOfWhatMayNotBe(t *testing.T) {
	expectReads(t, api.Node{}, 0)
	expectReads(t, reg(""), 0, "")
	expectReads(t, binary(0, reg(""), reg("bid"), reg(""), reg("a b"), reg("bid")), 0, "", "bid", "a b")
	odd := reg("a")
	odd.Kids = []api.Node{reg("b"), reg("a"), field(0), has(15), field(16), has(255)}
	expectReads(t, odd, 1|1<<15, "a", "b")
	deep := grown(reg("a"), 100, layers["if not"])
	expectReads(t, deep, 2, "a")
}

func TestReadsOfMany(t *testing.T) {
	var kids []api.Node
	var names []string
	for i := range 20000 {
		names = append(names, "r"+strconv.Itoa(i))
		kids = append(kids, reg(names[i]), reg(names[i/2]))
	}
	expectReads(t, api.Node{Kids: kids}, 0, names...)
}

func TestReadsIsNew(t *testing.T) {
	n := copied(expr("a + b + c + d + e"))
	_, one := tree.Reads(n)
	_, two := tree.Reads(n)
	for i := range one[:cap(one)] {
		one[:cap(one)][i] = "x"
	}
	if !slices.Equal(two, []string{"a", "b", "c", "d", "e"}) {
		t.Errorf("one answer was changed by way of another one: %q", two)
	}
	expectKept(t, n, copied(expr("a + b + c + d + e")))
	expectReads(t, n, 0, "a", "b", "c", "d", "e")
}

// through are all nodes of an expression in order, by the chapter's words.
func through(n api.Node) []api.Node {
	var l []api.Node
	for _, p := range nodes(elem(&n)) {
		l = append(l, *p)
	}
	return l
}

func expectAll(t *testing.T, n api.Node) {
	t.Helper()
	want := through(n)
	if l := slices.Collect(tree.All(n)); !reflect.DeepEqual(l, want) {
		t.Errorf("All(%s) goes through %s; want %s", short(n), short(l), short(want))
	}
	if z := tree.Size(n); z != len(want) {
		t.Errorf("Size(%s) is %d; want %d", short(n), z, len(want))
	}
}

func TestAll(t *testing.T) {
	for _, n := range samples() {
		expectAll(t, n)
	}
	expectAll(t, all())
	expectAll(t, api.Node{})
	expectAll(t, placed(num(1), least))
	expectAll(t, api.Node{Kind: 255, Kids: []api.Node{{}, {Kids: []api.Node{{N: -1}, {}}}, {At: 7}}})

	var texts []string
	for x := range tree.All(expr("a + b * -c < d")) {
		texts = append(texts, x.Name+strconv.Itoa(int(x.Oper)))
	}
	if want := []string{"13", "6", "a0", "8", "b0", "1", "c0", "d0"}; !slices.Equal(texts, want) {
		t.Errorf("All goes through %q; want %q", texts, want)
	}
}

// firsts are the first nodes of a row, which is left behind them.
func firsts(seq iter.Seq[api.Node], count int) []api.Node {
	var l []api.Node
	for x := range seq {
		l = append(l, x)
		if len(l) == count {
			break
		}
	}
	return l
}

func TestAllLeftEarly(t *testing.T) {
	want := through(all())
	seq := tree.All(all())
	for i := range want {
		if l := firsts(seq, i+1); !reflect.DeepEqual(l, want[:i+1]) {
			t.Errorf("the first %d nodes are %s", i+1, short(l))
		}
	}
	// Behind all of that it is still whole.
	if l := slices.Collect(seq); !reflect.DeepEqual(l, want) {
		t.Errorf("All goes through %s", short(l))
	}
}

// A function that says it has enough is not asked again.
func TestAllAsksNoMore(t *testing.T) {
	for i := range tree.Size(all()) {
		asked := 0
		tree.All(all())(func(api.Node) bool {
			asked++
			return asked <= i
		})
		if asked != i+1 {
			t.Errorf("left at node %d, it was asked %d times", i, asked)
		}
	}
}

func TestAllWithinItself(t *testing.T) {
	n := expr("a + b * -c < d")
	want := through(n)
	seq := tree.All(n)
	i := 0
	for x := range seq {
		j := 0
		for y := range seq {
			if !reflect.DeepEqual(y, want[j]) {
				t.Fatalf("within %d: node %d is %s", i, j, short(y))
			}
			j++
			if j > i {
				break
			}
		}
		if l := slices.Collect(tree.All(x)); !reflect.DeepEqual(l, through(want[i])) {
			t.Errorf("All of node %d goes through %s", i, short(l))
		}
		if !reflect.DeepEqual(x, want[i]) {
			t.Errorf("node %d is %s", i, short(x))
		}
		i++
	}
	if i != len(want) {
		t.Errorf("%d nodes", i)
	}
}

func TestTwoRowsInStep(t *testing.T) {
	want := through(all())
	next, stop := iter.Pull(tree.All(all()))
	defer stop()
	other, end := iter.Pull(tree.All(all()))
	defer end()
	for i := range want {
		a, is := next()
		b, too := other()
		if !is || !too || !reflect.DeepEqual(a, want[i]) || !reflect.DeepEqual(b, want[i]) {
			t.Fatalf("node %d is %s and %s", i, short(a), short(b))
		}
	}
	if _, is := next(); is {
		t.Errorf("there is one behind the last")
	}
}

// Whoever lays more kids behind those of a node that is told does not write into what was handed in.
func TestAllKeepsWhatWasHandedIn(t *testing.T) {
	n, was := copied(all()), copied(all())
	for x := range tree.All(n) {
		x.N, x.Name, x.At = 77, "x", 77
		x.Kids = append(x.Kids, num(77))
	}
	expectKept(t, n, was)
}

// It tells what the expression is when it is gone over.
func TestAllOfWhatHasChanged(t *testing.T) {
	n := copied(expr("1 + 2"))
	seq := tree.All(n)
	n.Kids[1] = reg("a")
	var kinds []api.NodeKind
	for x := range seq {
		kinds = append(kinds, x.Kind)
	}
	if !slices.Equal(kinds, []api.NodeKind{6, 1, 2}) {
		t.Errorf("All goes through %d", kinds)
	}
}
