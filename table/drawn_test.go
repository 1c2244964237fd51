package table_test

import (
	"reflect"
	"slices"
	"testing"

	"tripwire/api"
	"tripwire/table"
)

// drawer draws tables that may be, for what it knows of them.
type drawer struct {
	below  func(n int) int
	regs   int
	consts int
	slots  int
	states int
}

// moved is instructions that begin later.
func moved(l []api.Instr, by int) []api.Instr {
	l = slices.Clone(l)
	for i := range l {
		if jumps(l[i].Kind) {
			l[i].A += by
		}
	}
	return l
}

// joined is instructions one behind the other, each of which is told from its own beginning on.
func joined(parts ...[]api.Instr) []api.Instr {
	var all []api.Instr
	for _, l := range parts {
		all = append(all, moved(l, len(all))...)
	}
	return all
}

func one(k api.InstrKind, a int) []api.Instr { return []api.Instr{{Kind: k, A: a}} }

func (d drawer) leaf() []api.Instr {
	switch k := d.below(4); {
	case k == 0 && d.consts > 0:
		return one(api.InstrConst, d.below(d.consts))
	case k == 1 && d.regs > 0:
		return one(api.InstrReg, d.below(d.regs))
	case k == 2:
		return one(api.InstrField, 1+d.below(6))
	}
	return one(api.InstrHas, 1+d.below(3))
}

// expr is instructions that lay one number: such as lower makes, and others.
func (d drawer) expr(size int) []api.Instr {
	if size <= 1 {
		return d.leaf()
	}
	a, b := d.expr(size/2), d.expr((size-1)/2)
	n, m := len(a), len(b)
	switch d.below(9) {
	case 0:
		return joined(a, one(api.InstrOper, 1+d.below(3)))
	case 1, 2:
		return joined(a, b, one(api.InstrOper, 4+d.below(13)))
	case 3, 4:
		return joined(a, one(api.InstrAnd+api.InstrKind(d.below(2)), 1+m), b)
	case 5, 6:
		c := d.expr(size / 3)
		return joined(a, one(api.InstrElse, 2+m), b, one(api.InstrJump, 1+len(c)), c)
	case 7:
		// A jump to the next place, or one that passes over what another jump goes to.
		return joined(a, one(api.InstrJump, 1))
	}
	// What is taken off again, whichever it was.
	return append(joined(a, b), api.Instr{Kind: api.InstrElse, A: n + m + 1})
}

func (d drawer) row(last bool) thing {
	expr := func() []api.Instr { return d.expr(1 + d.below(9)) }
	slot := func() int { return 1 + d.below(d.slots) }
	switch k := d.below(7); {
	case last && k == 0:
		return halt()
	case last && k == 1:
		return goTo(d.below(d.states))
	case k == 2 && d.slots > 0:
		return cancel(slot())
	case k == 3 && d.slots > 0:
		return thing{api.Row{Kind: api.DoAmend, Index: slot()}, [4][]api.Instr{nil, expr(), expr(), nil}}
	case k == 4 && d.regs > 0:
		return thing{api.Row{Kind: api.DoSet, Index: d.below(d.regs)}, [4][]api.Instr{3: expr()}}
	case k == 5:
		return thing{api.Row{Kind: api.DoSubmit, Order: api.Market, Index: d.below(d.slots + 1)}, [4][]api.Instr{expr(), expr(), nil, nil}}
	}
	order := []api.Kind{api.Limit, api.Now, api.All, api.Post}[d.below(4)]
	return thing{api.Row{Kind: api.DoSubmit, Order: order, Index: d.below(d.slots + 1)}, [4][]api.Instr{expr(), expr(), expr(), nil}}
}

func (d drawer) number() int64 {
	n := int64(d.below(1<<62)) >> d.below(62)
	return []int64{0, 1, -1, n, -n, least, greatest, n - 1<<62}[d.below(8)]
}

// drawnTable is one that may be.
func drawnTable(from uint64) api.Table {
	d := drawer{below: draw(from)}
	d.regs, d.consts, d.slots, d.states = d.below(13), d.below(6), d.below(5), 1+d.below(4)
	var states [][]rule
	for range d.states {
		var rules []rule
		for range d.below(4) {
			r := rule{when: d.expr(1 + d.below(20))}
			for last := d.below(4); last >= 0; last-- {
				r.rows = append(r.rows, d.row(last == 0))
			}
			rules = append(rules, r)
		}
		states = append(states, rules)
	}
	x := laid(states...)
	x.Name, x.Slots, x.Regs, x.Consts = []string{"s", "x2_y", longName}[d.below(3)], d.slots, nil, nil
	for range d.regs {
		x.Regs = append(x.Regs, d.number())
	}
	for range d.consts {
		x.Consts = append(x.Consts, d.number())
	}
	return x
}

// slip changes one number of a table, or a list's length.
func slip(x api.Table, below func(n int) int) api.Table {
	x = copied(x)
	var numbers, all []reflect.Value
	leaves(elem(&x), "", func(_ string, v reflect.Value) {
		if v.Kind() != reflect.String {
			numbers = append(numbers, v)
		}
	})
	lists(elem(&x), func(v reflect.Value) { all = append(all, v) })
	if below(6) == 0 {
		v := all[below(len(all))]
		switch n := v.Len(); {
		case n > 0 && below(2) == 0:
			v.Set(v.Slice(0, n-1))
		case n > 0:
			v.Set(reflect.Append(v, deepCopy(v.Index(below(n)))))
		}
		return x
	}
	v := numbers[below(len(numbers))]
	by := []int{1, -1, 2, -2, 3, 7, 256}[below(7)]
	if v.CanInt() {
		v.SetInt(v.Int() + int64(by))
	} else {
		v.SetUint(uint64(uint16(v.Uint()) + uint16(by)))
	}
	return x
}

// expectAll holds all that is told of a table against the model.
func expectAll(t *testing.T, x api.Table) api.Errno {
	t.Helper()
	want := modelCheck(x)
	expectCheck(t, x, want)
	if want != api.OK {
		return want
	}
	bound := modelBound(x)
	expectBound(t, x, bound.Steps, bound.Acts)
	expectBytes(t, x, framed(modelContent(x)))
	return want
}

func TestDrawnTables(t *testing.T) {
	long := 0
	for k := range 3000 {
		x := drawnTable(uint64(k))
		if no := expectAll(t, x); no != api.OK {
			t.Fatalf("%s may not be: %d", short(x), no)
		}
		long = max(long, len(x.Code))
	}
	if long < 128 {
		t.Errorf("the longest has %d instructions", long)
	}
}

func TestTablesWithSlips(t *testing.T) {
	said := map[api.Errno]int{}
	for k := range 12000 {
		below := draw(uint64(1000000 + k))
		x := drawnTable(uint64(k / 4))
		for range 1 + below(2) {
			x = slip(x, below)
		}
		said[expectAll(t, x)]++
	}
	for _, no := range []api.Errno{api.OK, wrongForm, wrongCode, wrongStack, wrongMask} {
		if said[no] < 300 {
			t.Errorf("%d came %d times", no, said[no])
		}
	}
}

// Spans of drawn instructions, without any rule in it: most do not fit, some do.
func TestStrewnCodes(t *testing.T) {
	said := map[api.Errno]int{}
	for k := range 60000 {
		d := drawer{below: draw(uint64(2000000 + k)), regs: 3, consts: 3}
		var l []api.Instr
		for range 1 + d.below(9) {
			switch d.below(3) {
			case 0:
				l = append(l, d.leaf()...)
			case 1:
				l = append(l, api.Instr{Kind: api.InstrOper, A: 1 + d.below(8)})
			default:
				l = append(l, api.Instr{Kind: api.InstrAnd + api.InstrKind(d.below(4)), A: len(l) + 1 + d.below(3)})
			}
		}
		x := laid([]rule{{l, []thing{halt()}}, {d.expr(3), []thing{{api.Row{Kind: api.DoSet}, [4][]api.Instr{3: l}}}}})
		want := modelCheck(x)
		expectOnly(t, x, want)
		said[want]++
	}
	if said[api.OK] < 100 || said[wrongCode] < 1000 || said[wrongStack] < 1000 {
		t.Error(said)
	}
}

func TestDrawnReads(t *testing.T) {
	for k := range 3000 {
		below := draw(uint64(3000000 + k))
		x := slip(drawnTable(uint64(k)), below)
		s := span(below(2*len(x.Code)+4)-len(x.Code), below(2*len(x.Code)+4)-3)
		fields, regs := modelReads(x, s)
		if f, r := table.Reads(x, s); f != fields || r != regs {
			t.Errorf("Reads(%s, %v) is %b, %b; want %b, %b", short(x), s, f, r, fields, regs)
		}
	}
}
