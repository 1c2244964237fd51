package tree_test

import (
	"fmt"
	"reflect"
	"slices"
	"testing"

	"tripwire/api"
	"tripwire/tree"
)

func expectSame(t *testing.T, a, b api.Strategy, want bool) {
	t.Helper()
	if x, y := tree.Same(a, b), tree.Same(b, a); x != want || y != want {
		t.Errorf("Same of %s and %s is %t, and the other way round %t", short(a), short(b), x, y)
	}
}

func expectSameExpr(t *testing.T, a, b api.Node, want bool) {
	t.Helper()
	if x, y := tree.SameExpr(a, b), tree.SameExpr(b, a); x != want || y != want {
		t.Errorf("SameExpr of %s and %s is %t, and the other way round %t", short(a), short(b), x, y)
	}
}

// another is a value that a field has not.
func another(v reflect.Value, by int) {
	switch v.Kind() {
	case reflect.Uint8:
		v.SetUint(v.Uint() + uint64(by)&255)
	case reflect.Int, reflect.Int64:
		v.SetInt(v.Int() + int64(by))
	case reflect.String:
		v.SetString(v.String() + fmt.Sprint(by))
	default:
		panic(v.Kind().String())
	}
}

// leafAt is one of a tree's fields, by its number.
func leafAt(v reflect.Value, which int) (string, reflect.Value) {
	var name string
	var leaf reflect.Value
	i := 0
	leaves(v, "", func(n string, v reflect.Value) {
		if i == which {
			name, leaf = n, v
		}
		i++
	})
	return name, leaf
}

func countLeaves(v reflect.Value) int {
	i := 0
	leaves(v, "", func(string, reflect.Value) { i++ })
	return i
}

// Two that differ in one field alone, at each node and each part.
func TestOneFieldAlone(t *testing.T) {
	s := whole()
	count := countLeaves(elem(&s))
	places := 0
	for i := range count {
		for _, by := range []int{1, 255, 128} {
			a := copied(whole())
			name, leaf := leafAt(elem(&a), i)
			another(leaf, by)
			expectSame(t, a, whole(), name == "At")
			if name == "At" {
				places++
			}
		}
	}
	if count < 500 || places < 200 {
		t.Errorf("only %d fields, %d places", count, places)
	}
}

func TestOneFieldOfAnExpressionAlone(t *testing.T) {
	n := all()
	for i := range countLeaves(elem(&n)) {
		for _, by := range []int{1, 2, 255} {
			a := copied(all())
			name, leaf := leafAt(elem(&a), i)
			another(leaf, by)
			expectSameExpr(t, a, all(), name == "At")
		}
	}
}

// Of any trees: what may not be is compared as well.
func TestSameOfWhatMayNotBe(t *testing.T) {
	wrong := []api.Node{
		{}, {Kind: 10}, {Kind: 255}, {Kind: 1, N: -1}, {N: least}, {N: greatest}, {Oper: 1}, {Type: 1}, {Field: 1}, {Name: "a"}, {Name: " "},
		{Kids: []api.Node{{}}}, {Kids: []api.Node{{}, {}}}, {Kids: []api.Node{{Kids: []api.Node{{}}}}}, unary(1), binary(6, num(1)),
	}
	for i, a := range wrong {
		for j, b := range wrong {
			expectSameExpr(t, a, b, i == j)
			expectSameExpr(t, placed(a, 5), b, i == j)
			expectSame(t, ruled(a), ruled(b), i == j)
			expectSame(t, doing(api.Do{Value: a}), doing(api.Do{Value: b}), i == j)
			expectSame(t, keeping(api.Reg{Init: a}), keeping(api.Reg{Init: b}), i == j)
		}
	}
	expectSame(t, api.Strategy{}, api.Strategy{}, true)
	expectSame(t, api.Strategy{}, smallest(), false)
}

// listAt is one of a tree's lists, by its number; how many there are.
func listAt(v reflect.Value, which int) (reflect.Value, int) {
	var list reflect.Value
	i := 0
	lists(v, func(v reflect.Value) {
		if i == which {
			list = v
		}
		i++
	})
	return list, i
}

// Two that differ in how many parts one list has, or in their order.
func TestOneListAlone(t *testing.T) {
	s := whole()
	_, count := listAt(elem(&s), -1)
	for i := range count {
		more := copied(whole())
		list, _ := listAt(elem(&more), i)
		list.Set(reflect.Append(list, reflect.Zero(list.Type().Elem())))
		expectSame(t, more, whole(), false)

		fewer := copied(whole())
		list, _ = listAt(elem(&fewer), i)
		if list.Len() > 0 {
			list.Set(list.Slice(0, list.Len()-1))
			expectSame(t, fewer, whole(), false)
		}
		turned := copied(whole())
		list, _ = listAt(elem(&turned), i)
		if list.Len() > 1 {
			reflect.Swapper(list.Interface())(0, list.Len()-1)
			expectSame(t, turned, whole(), false)
		}
		// A list that is nil is as good as one that is empty.
		empty := copied(whole())
		list, _ = listAt(elem(&empty), i)
		if list.Len() == 0 {
			list.Set(reflect.MakeSlice(list.Type(), 0, 3))
			expectSame(t, empty, whole(), true)
			list.SetZero()
			expectSame(t, empty, whole(), true)
		}
	}
	if count < 100 {
		t.Errorf("only %d lists", count)
	}
}

func TestKidsNilAndEmpty(t *testing.T) {
	for _, n := range samples() {
		if len(n.Kids) > 0 {
			continue
		}
		a, b := n, n
		a.Kids, b.Kids = nil, []api.Node{}
		expectSameExpr(t, a, b, true)
		expectSameExpr(t, unary(1, a), unary(1, b), true)
		if x := tree.BareExpr(b); len(x.Kids) != 0 || !reflect.DeepEqual(tree.BareExpr(a), x) {
			t.Errorf("BareExpr(%s) is %s", short(b), short(x))
		}
	}
}

// stripped is a tree without places, by a look at each field.
func stripped[T any](x T) T {
	x = copied(x)
	setPlaces(elem(&x), 0)
	return x
}

func expectBare(t *testing.T, s api.Strategy) {
	t.Helper()
	s, was := copied(s), copied(s)
	b := tree.Bare(s)
	if !reflect.DeepEqual(plain(b), plain(stripped(s))) {
		t.Errorf("Bare(%s) is %s", short(s), short(b))
	}
	expectKept(t, s, was)
}

func expectBareExpr(t *testing.T, n api.Node) {
	t.Helper()
	n, was := copied(n), copied(n)
	b := tree.BareExpr(n)
	if !reflect.DeepEqual(plain(b), plain(stripped(n))) {
		t.Errorf("BareExpr(%s) is %s", short(n), short(b))
	}
	expectKept(t, n, was)
}

// plain is a tree whose empty lists are nil: so two that are alike are alike by reflect.
func plain[T any](x T) T {
	x = copied(x)
	lists(elem(&x), func(v reflect.Value) {
		if v.Len() == 0 {
			v.SetZero()
		}
	})
	return x
}

func TestBare(t *testing.T) {
	for _, at := range []int{least, -1, 0, 1, 4711, greatest} {
		s := copied(whole())
		setPlaces(elem(&s), at)
		expectBare(t, s)
		n := copied(all())
		setPlaces(elem(&n), at)
		expectBareExpr(t, n)
		expectBareExpr(t, placed(api.Node{}, at))
		expectBareExpr(t, placed(api.Node{Kind: 255, Oper: 255, Type: 255, N: least, Field: 255, Name: " ", Kids: []api.Node{placed(num(1), at), {}}}, at))
	}
	expectBare(t, api.Strategy{})
	expectBare(t, whole())
	expectBare(t, smallest())
	// Of any trees: more of everything than may be, and what may not be.
	s := whole()
	s.Regs, s.Slots, s.States = slices.Repeat(s.Regs, 9), slices.Repeat(s.Slots, 9), slices.Repeat(s.States, 9)
	s.States[0].Rules[0].Dos[0].Value = api.Node{Kids: []api.Node{{At: 3}}, At: 4}
	s.Regs[20].Init = api.Node{Kids: []api.Node{{At: 3}}, At: 4}
	expectBare(t, s)
}

// One place alone is set: it is found wherever it stands.
func TestBareOfOnePlace(t *testing.T) {
	s := stripped(whole())
	for i := range countLeaves(elem(&s)) {
		a := copied(s)
		name, leaf := leafAt(elem(&a), i)
		if name != "At" {
			continue
		}
		leaf.SetInt(77)
		if b := tree.Bare(a); !reflect.DeepEqual(plain(b), plain(s)) {
			t.Errorf("Bare(%s) is %s", short(a), short(b))
		}
	}
}

// What comes out is new memory: its owner may change it, and lay more behind each list.
func TestBareIsNew(t *testing.T) {
	s := copied(whole())
	was := copied(whole())
	one, two := tree.Bare(s), tree.Bare(s)
	spoil(elem(&one))
	expectKept(t, s, was)
	if !reflect.DeepEqual(plain(two), plain(stripped(was))) {
		t.Errorf("one answer was changed by way of another one: %s", short(two))
	}
	spoil(elem(&s))
	if !reflect.DeepEqual(plain(two), plain(stripped(was))) {
		t.Errorf("an answer was changed by way of what was handed in: %s", short(two))
	}
	expectBare(t, whole())

	n := copied(all())
	three, four := tree.BareExpr(n), tree.BareExpr(n)
	spoil(elem(&three))
	expectKept(t, n, copied(all()))
	if !reflect.DeepEqual(plain(four), plain(stripped(all()))) {
		t.Errorf("one answer was changed by way of another one: %s", short(four))
	}
	spoil(elem(&n))
	if !reflect.DeepEqual(plain(four), plain(stripped(all()))) {
		t.Errorf("an answer was changed by way of what was handed in: %s", short(four))
	}
}

// Two lists of one answer share no memory, though those that were handed in do.
func TestBareOfWhatIsShared(t *testing.T) {
	kids := []api.Node{num(1), num(2)}
	n := cond(binary(6, kids...), binary(6, kids...), call(4, kids...))
	b := tree.BareExpr(n)
	b.Kids[0].Kids[0].N = 77
	if b.Kids[1].Kids[0].N != 1 || b.Kids[2].Kids[0].N != 1 || kids[0].N != 1 {
		t.Errorf("%s", short(b))
	}
	dos := []api.Do{{Kind: api.DoSubmit, Side: n, Qty: n, Price: n, Value: n}}
	rules := []api.Rule{{When: n, Dos: dos}, {When: n, Dos: dos}}
	s := api.Strategy{Regs: []api.Reg{{Init: n}, {Init: n}}, States: []api.State{{Rules: rules}, {Rules: rules}}}
	a := tree.Bare(s)
	seen := map[*api.Node]int{}
	for _, x := range nodes(elem(&a)) {
		seen[x]++
	}
	for _, x := range nodes(elem(&s)) {
		seen[x]++
	}
	for _, x := range nodes(elem(&a)) {
		if seen[x] != 1 {
			t.Fatalf("a node of the answer stands at %d places", seen[x])
		}
	}
	b2 := tree.Bare(s)
	spoil(elem(&a))
	expectSame(t, b2, s, true)
}

// spoil changes all fields of a tree, and what lies behind its lists, as far as there is room.
func spoil(v reflect.Value) {
	spoilRoom(v)
	leaves(v, "", func(_ string, v reflect.Value) { another(v, 1) })
}

// Neither list's room is looked at.
func TestRoomBehindListsIsNotLookedAt(t *testing.T) {
	a, b := copied(whole()), copied(whole())
	spoilRoom(elem(&a))
	expectSame(t, a, b, true)
	expectCheck(t, a, api.OK)
	was := plain(stripped(whole()))
	if x := tree.Bare(a); !reflect.DeepEqual(plain(x), was) {
		t.Errorf("Bare is %s", short(x))
	}
}

func spoilRoom(v reflect.Value) {
	lists(v, func(v reflect.Value) {
		room := v.Slice(0, v.Cap())
		for i := v.Len(); i < v.Cap(); i++ {
			leaves(room.Index(i), "", func(_ string, v reflect.Value) { another(v, 1) })
		}
	})
}
