package tree_test

import (
	"math"
	"reflect"
	"regexp"
	"slices"
	"testing"

	"tripwire/api"
	"tripwire/lex"
	"tripwire/tree"
)

// The tests of this file hold the calls against a model, tables by the chapter's words, and look whether the rows of 'What holds' do.

// shape is what of a node can be told by a table: its Name and N are nought, but where the table says so.
type shape struct {
	kind  api.NodeKind
	oper  api.Oper
	typed api.Type
	field api.Field
	kids  int
}

// numbers are the least and the greatest N.
type numbers struct{ from, to int64 }

// shapes are all that may be.
var shapes = func() map[shape]numbers {
	all := map[shape]numbers{
		{kind: 1, typed: 1}: {0, math.MaxInt64}, {kind: 1, typed: 2}: {0, math.MaxInt64}, {kind: 1, typed: 3}: {0, math.MaxInt64}, {kind: 1, typed: 4}: {0, math.MaxInt64},
		{kind: 1, typed: 5}: {0, 1}, {kind: 1, typed: 6}: {1, 2},
		{kind: 2}: {}, {kind: 4, field: 1}: {}, {kind: 4, field: 2}: {}, {kind: 4, field: 3}: {},
		{kind: 5, oper: 1, kids: 1}: {}, {kind: 5, oper: 2, kids: 1}: {}, {kind: 7, kids: 3}: {},
		{kind: 8, oper: 3, kids: 1}: {}, {kind: 8, oper: 4, kids: 2}: {}, {kind: 8, oper: 5, kids: 2}: {},
	}
	for f := range 6 {
		all[shape{kind: 3, field: api.Field(f + 1)}] = numbers{}
	}
	for o := 6; o <= 18; o++ {
		all[shape{kind: 6, oper: api.Oper(o), kids: 2}] = numbers{}
	}
	for to := 1; to <= 4; to++ {
		all[shape{kind: 9, typed: api.Type(to), kids: 1}] = numbers{}
	}
	return all
}()

var nameForm = regexp.MustCompile(`\A[a-z][a-z0-9_]{0,15}\z`)

func isName(s string) bool { return nameForm.MatchString(s) && !slices.Contains(lex.Words(), s) }

func nodeMayBe(n api.Node) bool {
	r, is := shapes[shape{n.Kind, n.Oper, n.Type, n.Field, len(n.Kids)}]
	if n.Kind == api.NodeReg {
		is = is && isName(n.Name)
	} else {
		is = is && n.Name == ""
	}
	return is && n.N >= r.from && n.N <= r.to
}

// levels of kinds, and of operators between two.
var (
	kindLevels = [10]int{0, 8, 8, 8, 8, 7, 0, 1, 8, 8}
	operLevels = [19]int{6: 5, 7: 5, 8: 6, 9: 6, 10: 6, 11: 4, 12: 4, 13: 4, 14: 4, 15: 4, 16: 4, 17: 3, 18: 2}
	// placeLevels are what kids' places ask for: by the node's level; those of level 8 (calls) last.
	placeLevels = [9][3]int{1: {2, 1, 1}, 2: {2, 3}, 3: {3, 4}, 4: {5, 5}, 5: {5, 6}, 6: {6, 7}, 7: {7}, 8: {1, 1}}
	// placeSteps are what they make deeper, whatever stands there.
	placeSteps = [9][3]int{1: {0, 1, 1}, 7: {1}, 8: {1, 1}}
)

func modelLevel(n api.Node) int {
	if n.Kind == api.NodeBinary {
		return operLevels[n.Oper]
	}
	return kindLevels[n.Kind]
}

// reached is how deep the deepest node of an expression is that stands that deep itself.
func reached(n api.Node, depth int) int {
	far := depth
	level := modelLevel(n)
	for i, kid := range n.Kids {
		to := depth + placeSteps[level][i]
		if modelLevel(kid) < placeLevels[level][i] {
			to++
		}
		far = max(far, reached(kid, to))
	}
	return far
}

func modelExpr(n api.Node) api.Errno {
	for _, x := range through(n) {
		if !nodeMayBe(x) {
			return wrongForm
		}
	}
	if reached(n, 0) > 24 {
		return tooDeep
	}
	return api.OK
}

// The verdicts on a strategy's parts, in order.

func ifNot(is bool) api.Errno {
	if is {
		return api.OK
	}
	return wrongForm
}

func modelCount(n, from, to int) api.Errno {
	if n > to {
		return tooMany
	}
	return ifNot(n >= from)
}

func isNumberLit(n api.Node) bool {
	return n.Kind == 1 && n.Type <= 4 && nodeMayBe(n)
}

func modelInit(n api.Node) api.Errno {
	if n.Kind == 5 {
		return ifNot(nodeMayBe(n) && n.Oper == 1 && isNumberLit(n.Kids[0]))
	}
	return ifNot(n.Kind == 1 && nodeMayBe(n))
}

// deedParts has of each kind which of Order, Name, Side, Qty, Price, Value it has ('+', '-'; '?': it may have).
var deedParts = map[api.DoKind]string{1: "+?+++-", 2: "-+-++-", 3: "-+----", 4: "-+---+", 5: "-+----", 6: "------"}

func modelDeed(d api.Do) []api.Errno {
	row := deedParts[d.Kind]
	if row == "" {
		return []api.Errno{wrongForm}
	}
	order, name := d.Order == 0, d.Name == ""
	if row[0] == '+' {
		order = d.Order >= 1 && d.Order <= 5
	}
	if row[1] != '-' {
		name = isName(d.Name) || row[1] == '?' && name
	}
	l := []api.Errno{ifNot(order), ifNot(name)}
	for i, n := range []api.Node{d.Side, d.Qty, d.Price, d.Value} {
		if row[2+i] == '+' && !(i == 2 && d.Kind == 1 && d.Order == 2) {
			l = append(l, modelExpr(n))
			continue
		}
		n.At = 0
		l = append(l, ifNot(reflect.DeepEqual(plain(n), api.Node{})))
	}
	return l
}

func modelParts(s api.Strategy) []api.Errno {
	l := []api.Errno{ifNot(isName(s.Name)), modelCount(len(s.Regs), 0, 12)}
	for _, r := range s.Regs {
		l = append(l, ifNot(isName(r.Name)), ifNot(r.Type >= 1 && r.Type <= 6), modelInit(r.Init))
	}
	l = append(l, modelCount(len(s.Slots), 0, 4))
	for _, x := range s.Slots {
		l = append(l, ifNot(isName(x.Name)))
	}
	l = append(l, modelCount(len(s.States), 1, 12))
	for _, x := range s.States {
		l = append(l, ifNot(isName(x.Name)), modelCount(len(x.Rules), 0, 12))
		for _, r := range x.Rules {
			l = append(l, modelExpr(r.When), modelCount(len(r.Dos), 1, 8))
			for _, d := range r.Dos {
				l = append(l, modelDeed(d)...)
			}
		}
	}
	return l
}

func modelCheck(s api.Strategy) api.Errno {
	for _, no := range modelParts(s) {
		if no != api.OK {
			return no
		}
	}
	return api.OK
}

func modelReads(n api.Node) (api.Mask, []string) {
	m, l := api.Mask(0), []string(nil)
	for _, x := range through(n) {
		if (x.Kind == 3 || x.Kind == 4) && x.Field <= 15 {
			m |= 1 << x.Field
		}
		if x.Kind == 2 && !slices.Contains(l, x.Name) {
			l = append(l, x.Name)
		}
	}
	return m, l
}

// expectModelExpr holds all that is told of an expression against the model, and tells the error.
func expectModelExpr(t *testing.T, n api.Node) api.Errno {
	t.Helper()
	no := modelExpr(n)
	expectExpr(t, n, no)
	level, depth := 0, 0
	if no != wrongForm {
		level, depth = modelLevel(n), reached(n, 0)
	}
	expectNumbers(t, n, level, depth, len(through(n)))
	m, l := modelReads(n)
	expectReads(t, n, m, l...)
	return no
}

// All nodes of small fields, with up to three kids.
func TestAllSmallNodes(t *testing.T) {
	kids := []api.Node{num(1), reg("a"), has(1)}
	right := 0
	for kind := range api.NodeKind(11) {
		for oper := range api.Oper(20) {
			for typed := range api.Type(8) {
				for f := range api.Field(8) {
					for count := range 4 {
						for _, name := range []string{"", "a", "bid"} {
							for _, n := range []int64{-1, 0, 1, 2, 3} {
								x := api.Node{Kind: kind, Oper: oper, Type: typed, N: n, Field: f, Name: name, Kids: kids[:count]}
								want := ifNot(nodeMayBe(x))
								if no := tree.CheckExpr(x); no != want {
									t.Fatalf("CheckExpr(%s) is %d; want %d", short(x), no, want)
								}
								if want == api.OK {
									right++
									expectModelExpr(t, x)
								}
							}
						}
					}
				}
			}
		}
	}
	// 4 types of 4 numbers, 2 bools, 2 sides, a register, 6 and 3 fields, 2 and 13 operators, a condition, 3 calls, 4 conversions.
	if right != 16+4+1+9+15+1+3+4 {
		t.Errorf("%d may be", right)
	}
}

// forms are nodes of each level and each number of kids, whose kids are still to come.
func forms() []api.Node {
	a := api.Node{}
	return []api.Node{
		num(1), cond(a, a, a), binary(18, a, a), binary(17, a, a), binary(13, a, a), binary(6, a, a), binary(8, a, a), unary(1, a), call(3, a), call(4, a, a), conv(1, a),
	}
}

// built hands each expression that is so many nodes high at most, with kids at each place out of those given.
func built(kids []api.Node, see func(api.Node)) {
	for _, form := range forms() {
		var fill func(i int)
		n := copied(form)
		fill = func(i int) {
			if i == len(n.Kids) {
				see(copied(n))
				return
			}
			for _, kid := range kids {
				n.Kids[i] = kid
				fill(i + 1)
			}
		}
		fill(0)
	}
}

func TestAllSmallExpressions(t *testing.T) {
	var low []api.Node
	built([]api.Node{reg("a")}, func(n api.Node) { low = append(low, n) })
	count := 0
	var middle []api.Node
	built(low, func(n api.Node) {
		expectModelExpr(t, n)
		count++
		if count%140 == 0 {
			middle = append(middle, n)
		}
	})
	built(append(middle, low[:3]...), func(n api.Node) {
		expectModelExpr(t, n)
		count++
	})
	if count < 3000 {
		t.Errorf("only %d expressions", count)
	}
}

// drawExpr is an expression that may be, but for its depth.
func drawExpr(below func(int) int, size int) api.Node {
	kid := func() api.Node { return drawExpr(below, size*below(10)/10) }
	var n api.Node
	kind := below(9)
	if size == 0 {
		kind = below(4)
	}
	switch kind {
	case 0:
		n = lit(api.Type(1+below(4)), int64(below(3)))
		if below(3) == 0 {
			n = lit(5, int64(below(2)))
		}
		if below(4) == 0 {
			n = lit(6, int64(1+below(2)))
		}
	case 1:
		n = reg([]string{"a", "b", "c", "long_name_of_all"}[below(4)])
	case 2:
		n = field(api.Field(1 + below(6)))
	case 3:
		n = has(api.Field(1 + below(3)))
	case 4:
		n = unary(api.Oper(1+below(2)), kid())
	case 5:
		n = binary(api.Oper(6+below(13)), kid(), kid())
	case 6:
		n = cond(kid(), kid(), kid())
	case 7:
		n = call(3, kid())
		if below(2) == 0 {
			n = call(api.Oper(4+below(2)), kid(), kid())
		}
	case 8:
		n = conv(api.Type(1+below(4)), kid())
	}
	n.At = below(5)
	return n
}

// drawDeep is a row that goes down, one layer below the other.
func drawDeep(below func(int) int, count int) api.Node {
	n := drawExpr(below, 2)
	for range count {
		switch below(6) {
		case 0:
			n = unary(api.Oper(1+below(2)), n)
		case 1:
			n = binary(api.Oper(6+below(13)), drawExpr(below, 1), n)
		case 2:
			n = binary(api.Oper(6+below(13)), n, drawExpr(below, 1))
		case 3:
			kids := []api.Node{drawExpr(below, 1), drawExpr(below, 1), drawExpr(below, 1)}
			kids[below(3)] = n
			n = cond(kids...)
		case 4:
			n = conv(api.Type(1+below(4)), n)
		case 5:
			n = call(4, n, drawExpr(below, 1))
		}
	}
	return n
}

// drawTurn changes one field or one list of a tree, to one that may be or not.
func drawTurn(below func(int) int, v reflect.Value) {
	if below(3) > 0 {
		_, leaf := leafAt(v, below(countLeaves(v)))
		drawLeaf(below, leaf)
		return
	}
	_, count := listAt(v, -1)
	if count == 0 {
		return
	}
	list, _ := listAt(v, below(count))
	switch size := list.Len(); {
	case size > 0 && below(2) == 0:
		list.Set(list.Slice(0, size-1))
	case size > 0 && below(2) == 0:
		for range 12 {
			list.Set(reflect.Append(list, list.Index(0)))
		}
	case size > 0:
		list.Set(reflect.Append(list, list.Index(below(size))))
	default:
		list.Set(reflect.Append(list, reflect.Zero(list.Type().Elem())))
	}
}

func drawLeaf(below func(int) int, v reflect.Value) {
	switch v.Kind() {
	case reflect.Uint8:
		v.SetUint(uint64(below(20)))
	case reflect.Int, reflect.Int64:
		v.SetInt([]int64{least, -1, 0, 1, 2, 3, greatest}[below(7)])
	case reflect.String:
		v.SetString([]string{"", "a", "bid", "b2", "a b", "abcdefghijklmnop", "abcdefghijklmnopq"}[below(7)])
	}
}

func TestDrawnExpressions(t *testing.T) {
	below := draw(1)
	seen := map[api.Errno]int{}
	for range 10000 {
		n := drawExpr(below, 12)
		if below(4) == 0 {
			n = drawDeep(below, below(60))
		}
		if below(3) == 0 {
			n = copied(n)
			drawTurn(below, elem(&n))
		}
		seen[expectModelExpr(t, n)]++
	}
	for _, no := range []api.Errno{api.OK, wrongForm, tooDeep} {
		if seen[no] < 500 {
			t.Errorf("%d was met %d times", no, seen[no])
		}
	}
}

func drawDeed(below func(int) int) api.Do {
	e := func() api.Node { return drawExpr(below, 3) }
	name := []string{"a", "b", "o"}[below(3)]
	d := api.Do{Kind: api.DoKind(1 + below(6)), At: below(5)}
	switch d.Kind {
	case 1:
		d.Order, d.Side, d.Qty = api.Kind(1+below(5)), e(), e()
		if d.Order != 2 {
			d.Price = e()
		}
		if below(2) == 0 {
			d.Name = name
		}
	case 2:
		d.Name, d.Qty, d.Price = name, e(), e()
	case 4:
		d.Name, d.Value = name, e()
	case 3, 5:
		d.Name = name
	}
	return d
}

// drawStrategy is one that may be, but for the depth of its expressions.
func drawStrategy(below func(int) int) api.Strategy {
	s := api.Strategy{Name: "s"}
	for range below(4) {
		init := lit(api.Type(1+below(5)), int64(below(2)))
		if below(3) == 0 {
			init = unary(1, lit(api.Type(1+below(4)), greatest))
		}
		s.Regs = append(s.Regs, api.Reg{Name: "a", Type: api.Type(1 + below(6)), Init: init, At: below(3)})
	}
	for range below(5) {
		s.Slots = append(s.Slots, api.Slot{Name: "o", At: below(3)})
	}
	for range 1 + below(3) {
		x := api.State{Name: "b", At: below(3)}
		for range below(3) {
			r := api.Rule{When: drawExpr(below, 5), At: below(3)}
			if below(12) == 0 {
				r.When = drawDeep(below, 20+below(30))
			}
			for range 1 + below(3) {
				r.Dos = append(r.Dos, drawDeed(below))
			}
			x.Rules = append(x.Rules, r)
		}
		s.States = append(s.States, x)
	}
	return s
}

// drawMany makes one list of a strategy about as long as it may be.
func drawMany(below func(int) int, s *api.Strategy) {
	x := &s.States[below(len(s.States))]
	switch below(5) {
	case 0:
		s.Regs = slices.Repeat([]api.Reg{{Name: "a", Type: 1, Init: num(1)}}, 11+below(3))
	case 1:
		s.Slots = slices.Repeat([]api.Slot{{Name: "a"}}, 3+below(3))
	case 2:
		s.States = slices.Repeat(s.States[:1], 11+below(3))
	case 3:
		x.Rules = slices.Repeat([]api.Rule{{When: num(1), Dos: []api.Do{halt()}}}, 11+below(3))
	case 4:
		x.Rules = append(x.Rules, api.Rule{When: num(1), Dos: slices.Repeat([]api.Do{halt()}, 7+below(3))})
	}
}

// drawAny is one that may be or not.
func drawAny(below func(int) int) api.Strategy {
	s := drawStrategy(below)
	if below(6) == 0 {
		drawMany(below, &s)
	}
	s = copied(s)
	for range max(0, below(6)-2) {
		drawTurn(below, elem(&s))
	}
	return s
}

func TestDrawnStrategies(t *testing.T) {
	below := draw(2)
	seen := map[api.Errno]int{}
	several := 0
	for range 3000 {
		s := drawAny(below)
		l := modelParts(s)
		no := modelCheck(s)
		expectCheck(t, s, no)
		seen[no]++
		if slices.Contains(l, wrongForm) && (slices.Contains(l, tooDeep) || slices.Contains(l, tooMany)) {
			several++
		}
	}
	for _, no := range []api.Errno{api.OK, wrongForm, tooDeep, tooMany} {
		if seen[no] < 100 {
			t.Errorf("%d was met %d times", no, seen[no])
		}
	}
	if several < 50 {
		t.Errorf("only %d had several wrong parts of which different errors are told", several)
	}
}

// alike is Same by the chapter's words.
func alike[T any](a, b T) bool { return reflect.DeepEqual(plain(stripped(a)), plain(stripped(b))) }

// Bare of what may be may be; it is the same as what it is of; Bare of it is it, place by place.
func TestBareHolds(t *testing.T) {
	below := draw(3)
	for range 1000 {
		s := drawAny(below)
		b := tree.Bare(s)
		expectCheck(t, b, tree.Check(s))
		expectSame(t, s, b, true)
		if !reflect.DeepEqual(plain(b), plain(stripped(s))) || !reflect.DeepEqual(tree.Bare(b), b) {
			t.Errorf("Bare(%s) is %s, Bare of that %s", short(s), short(b), short(tree.Bare(b)))
		}
		n := drawDeep(below, below(40))
		if below(2) == 0 {
			n = copied(n)
			drawTurn(below, elem(&n))
		}
		x := tree.BareExpr(n)
		expectExpr(t, x, tree.CheckExpr(n))
		expectSameExpr(t, x, n, true)
		if !reflect.DeepEqual(plain(x), plain(stripped(n))) || !reflect.DeepEqual(tree.BareExpr(x), x) {
			t.Errorf("BareExpr(%s) is %s", short(n), short(x))
		}
	}
}

// Same is so of each and itself, and both ways round, and of no others.
func TestSameHolds(t *testing.T) {
	below := draw(4)
	seen := map[bool]int{}
	for range 2000 {
		a := drawAny(below)
		expectSame(t, a, a, true)
		b := copied(a)
		for range 1 + below(2) {
			drawTurn(below, elem(&b))
		}
		want := alike(a, b)
		expectSame(t, a, b, want)
		seen[want]++
		if want && tree.Check(a) != tree.Check(b) {
			t.Errorf("%s and %s are the same; Check says otherwise", short(a), short(b))
		}
	}
	if seen[true] < 100 || seen[false] < 500 {
		t.Errorf("%v", seen)
	}
}

// Of what is the same CheckExpr, Depth, Size and Reads say the same.
func TestSameExprHolds(t *testing.T) {
	below := draw(5)
	seen := map[bool]int{}
	for range 5000 {
		a := drawExpr(below, 6)
		if below(5) == 0 {
			a = drawDeep(below, below(50))
		}
		expectSameExpr(t, a, a, true)
		b := copied(a)
		drawTurn(below, elem(&b))
		want := alike(a, b)
		expectSameExpr(t, a, b, want)
		seen[want]++
		if !want {
			continue
		}
		expectExpr(t, b, tree.CheckExpr(a))
		expectNumbers(t, b, tree.Level(a), tree.Depth(a), tree.Size(a))
		m, l := tree.Reads(a)
		expectReads(t, b, m, l...)
	}
	if seen[true] < 500 || seen[false] < 500 {
		t.Errorf("%v", seen)
	}
}

// Size is how many nodes All goes through.
func TestSizeHolds(t *testing.T) {
	below := draw(6)
	for range 3000 {
		n := copied(drawExpr(below, 10))
		drawTurn(below, elem(&n))
		count := 0
		for range tree.All(n) {
			count++
		}
		if z := tree.Size(n); z != count || z != len(through(n)) {
			t.Errorf("Size(%s) is %d; All goes through %d", short(n), z, count)
		}
		expectAll(t, n)
	}
}
