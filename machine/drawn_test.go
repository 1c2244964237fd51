package machine_test

import (
	"reflect"
	"slices"
	"testing"

	"tripwire/api"
	"tripwire/machine"
	"tripwire/table"
)

// drawer draws tables that may be, such as lower makes and others, with modes and snapshots to them.
type drawer struct {
	below  func(n int) int
	regs   int
	consts int
	slots  int
	states int
}

// moved is instructions that begin later.
func moved(l []api.Instr, by int) []api.Instr {
	l = slices.Clone(l)
	for i := range l {
		if jumps(l[i].Kind) {
			l[i].A += by
		}
	}
	return l
}

// joined is instructions one behind the other, each of which is told from its own beginning on.
func joined(parts ...[]api.Instr) []api.Instr {
	var all []api.Instr
	for _, l := range parts {
		all = append(all, moved(l, len(all))...)
	}
	return all
}

func one(k api.InstrKind, a int) []api.Instr { return []api.Instr{{Kind: k, A: a}} }

func (d drawer) leaf() []api.Instr {
	switch k := d.below(6); {
	case k < 2 && d.consts > 0:
		return one(api.InstrConst, d.below(d.consts))
	case k < 4 && d.regs > 0:
		return one(api.InstrReg, d.below(d.regs))
	case k == 4:
		return one(api.InstrField, 1+d.below(6))
	}
	return one(api.InstrHas, 1+d.below(3))
}

// expr is instructions that lay one number, so large at most.
func (d drawer) expr(size int) []api.Instr {
	if size <= 1 {
		return d.leaf()
	}
	a, b := d.expr(size/2), d.expr((size-1)/2)
	n, m := len(a), len(b)
	switch d.below(9) {
	case 0:
		return joined(a, one(api.InstrOper, 1+d.below(3)))
	case 1, 2:
		return joined(a, b, one(api.InstrOper, 4+d.below(13)))
	case 3, 4:
		return joined(a, one(api.InstrAnd+api.InstrKind(d.below(2)), 1+m), b)
	case 5, 6:
		c := d.expr(size / 3)
		return joined(a, one(api.InstrElse, 2+m), b, one(api.InstrJump, 1+len(c)), c)
	case 7:
		return joined(a, one(api.InstrJump, 1))
	}
	// What is taken off again, whichever it was.
	return append(joined(a, b), api.Instr{Kind: api.InstrElse, A: n + m + 1})
}

// side is instructions whose value mostly is a side.
func (d drawer) side() []api.Instr {
	if d.consts < 2 || d.below(6) == 0 {
		return d.expr(1 + d.below(5))
	}
	if d.below(3) == 0 {
		return joined(one(api.InstrHas, 1+d.below(3)), code("else 3, const 0, jump 4, const 1"))
	}
	return one(api.InstrConst, d.below(2))
}

func (d drawer) row(last bool) thing {
	expr := func() []api.Instr { return d.expr(1 + d.below(6)) }
	slot := func() int { return 1 + d.below(d.slots) }
	switch k := d.below(8); {
	case last && k == 0:
		return halt()
	case last && k == 1:
		return goTo(d.below(d.states))
	case k == 2 && d.slots > 0:
		return cancel(slot())
	case k == 3 && d.slots > 0:
		return thing{api.Row{Kind: api.DoAmend, Index: slot()}, [4][]api.Instr{nil, expr(), expr(), nil}}
	case (k == 4 || k == 5) && d.regs > 0:
		return thing{api.Row{Kind: api.DoSet, Index: d.below(d.regs)}, [4][]api.Instr{3: expr()}}
	case k == 6:
		return thing{api.Row{Kind: api.DoSubmit, Order: api.Market, Index: d.below(d.slots + 1)}, [4][]api.Instr{d.side(), expr(), nil, nil}}
	}
	order := []api.Kind{api.Limit, api.Now, api.All, api.Post}[d.below(4)]
	return thing{api.Row{Kind: api.DoSubmit, Order: order, Index: d.below(d.slots + 1)}, [4][]api.Instr{d.side(), expr(), expr(), nil}}
}

// seldom is a number in which ends and noughts are frequent.
func (d drawer) seldom() int64 {
	if d.below(4) == 0 {
		return edges()[d.below(len(edges()))]
	}
	return int64(d.below(12)) - 4
}

// table is one that may be.
func (d *drawer) table() api.Table {
	d.regs, d.consts, d.slots, d.states = d.below(7), d.below(6), d.below(5), 1+d.below(4)
	var states [][]rule
	for range d.states {
		var rules []rule
		for range d.below(5) {
			r := rule{when: d.expr(1 + d.below(12))}
			for last := d.below(4); last >= 0; last-- {
				r.rows = append(r.rows, d.row(last == 0))
			}
			rules = append(rules, r)
		}
		states = append(states, rules)
	}
	x := laid(states...)
	x.Slots, x.Regs, x.Consts = d.slots, nil, nil
	for range d.regs {
		x.Regs = append(x.Regs, d.seldom())
	}
	for k := range d.consts {
		n := d.seldom()
		if k < 2 {
			n = int64(k + 1)
		}
		x.Consts = append(x.Consts, n)
	}
	return x
}

// slip changes one number of a table, or a list's length.
func slip(x api.Table, below func(n int) int) api.Table {
	x = copied(x)
	var numbers, all []reflect.Value
	leaves(elem(&x), func(v reflect.Value) {
		if v.Kind() != reflect.String {
			numbers = append(numbers, v)
		}
	})
	lists(elem(&x), func(v reflect.Value) { all = append(all, v) })
	if below(6) == 0 {
		v := all[below(len(all))]
		switch n := v.Len(); {
		case n > 0 && below(2) == 0:
			v.Set(v.Slice(0, n-1))
		case n > 0:
			v.Set(reflect.Append(v, deepCopy(v.Index(below(n)))))
		}
		return x
	}
	v := numbers[below(len(numbers))]
	by := []int{1, -1, 2, -2, 3, 7, 256}[below(7)]
	if v.CanInt() {
		v.SetInt(v.Int() + int64(by))
	} else {
		v.SetUint(uint64(uint16(v.Uint()) + uint16(by)))
	}
	return x
}

// mode is one of a table; one in so many times it is none.
func (d drawer) mode(x api.Table, slips int) api.Mode {
	m := api.Mode{State: d.below(max(1, len(x.States)))}
	for range x.Regs {
		m.Regs = append(m.Regs, d.seldom())
	}
	if slips > 0 && d.below(slips) == 0 {
		switch d.below(3) {
		case 0:
			m.State = []int{-1, len(x.States), 99}[d.below(3)]
		case 1:
			m.Regs = append(m.Regs, 0)
		default:
			m.Regs = m.Regs[:d.below(len(m.Regs)+1)]
		}
	}
	return m
}

// snap is a snapshot in which often something is not there; one in so many times it may not be.
func (d drawer) snap(slips int) api.Snap {
	some := func(most int64) int64 {
		switch d.below(6) {
		case 0:
			return 0
		case 1:
			return most
		}
		return int64(1 + d.below(12))
	}
	w := api.Snap{Bid: some(api.MaxPrice), Ask: some(api.MaxPrice), Last: some(api.MaxPrice), Volume: some(api.MaxVolume), Now: some(api.MaxTime), Open: some(api.MaxOpen)}
	if slips > 0 && d.below(slips) == 0 {
		w.Now = -1
	}
	return w
}

// drawnTables are many; about one in five is slipped, so that it may be or not.
func drawnTables(from uint64, count int) []api.Table {
	var all []api.Table
	for k := range count {
		d := &drawer{below: draw(from + uint64(k))}
		x := d.table()
		if k%5 == 0 {
			x = slip(x, d.below)
		}
		all = append(all, x)
	}
	return all
}

// outcome is a turn's kind.
func outcome(f api.Firing, no api.Errno) string {
	switch {
	case no != api.OK:
		return no.Error()
	case f.Status == api.Faulted:
		return "faults " + f.Code.Error()[len("error "):]
	case f.Refused:
		return "refused"
	case f.Rule < 0:
		return "nothing"
	}
	kind := "fires"
	if f.Status == api.Halted {
		kind = "halts"
	}
	if len(f.Actions) > 0 {
		kind += " actions"
	}
	return kind
}

// expectReached tells whether each of these came so often.
func expectReached[K comparable](t *testing.T, reached map[K]int, least int, all ...K) {
	t.Helper()
	for _, k := range all {
		if reached[k] < least {
			t.Errorf("%v was reached %d times; all: %v", k, reached[k], reached)
		}
	}
}

// expectAsModel tells whether a turn is what the model says, and answers it.
func expectAsModel(t *testing.T, x api.Table, m api.Mode, w api.Snap, granted bool) (api.Firing, api.Mode, api.Errno) {
	t.Helper()
	f, next, no := machine.Turn(x, m, w, granted)
	want, wantNext, wantNo := modelTurn(x, m, w, granted)
	if !sameFiring(f, want) || !sameMode(next, wantNext) || no != wantNo {
		t.Errorf("Turn(%s) with %v, %v, %t is %+v, %v, %d; want %+v, %v, %d", short(x), m, w, granted, f, next, no, want, wantNext, wantNo)
	}
	return f, next, no
}

func TestDrawnTurns(t *testing.T) {
	reached := map[string]int{}
	for k, x := range drawnTables(100, 6000) {
		d := drawer{below: draw(uint64(500000 + k))}
		m, no := machine.Start(x)
		if want := table.Check(x); no != want || want == api.OK && !sameMode(m, mode(0, x.Regs...)) || want != api.OK && !sameMode(m, api.Mode{}) {
			t.Errorf("Start(%s) is %v, %d; want %d", short(x), m, no, want)
		}
		for range 12 {
			f, next, no := expectAsModel(t, x, m, d.snap(40), d.below(4) > 0)
			reached[outcome(f, no)]++
			m = next
			if no != api.OK || f.Status != api.Running || d.below(3) == 0 {
				m = d.mode(x, 30)
			}
		}
	}
	expectReached(t, reached, 50, "nothing", "fires", "fires actions", "halts", "halts actions", "refused",
		"faults 10", "faults 11", "faults 170", "faults 201", "error 200", "error 100", "error 190", "error 191", "error 192", "error 193")
}

// anySpan is one of a table's, or now and then any.
func (d drawer) anySpan(x api.Table) api.Span {
	all := spansOf(x)
	if len(all) == 0 || d.below(5) == 0 {
		return span(d.below(len(x.Code)+3)-1, d.below(len(x.Code)+3)-1)
	}
	return all[d.below(len(all))]
}

func TestDrawnValues(t *testing.T) {
	reached := map[api.Errno]int{}
	kinds := map[api.Instr]int{}
	for k, x := range drawnTables(200000, 8000) {
		d := drawer{below: draw(uint64(900000 + k))}
		for range 12 {
			s, m, w := d.anySpan(x), d.mode(x, 60), d.snap(60)
			want := modelValue(x, s, m, w)
			expectValue(t, x, s, m, w, want)
			reached[want.no]++
			if want.no == api.OK {
				for _, in := range x.Code[s.From:s.To] {
					if in.Kind != api.InstrOper {
						in.A = 0
					}
					kinds[in]++
				}
			}
		}
	}
	expectReached(t, reached, 50, api.OK, over, zero, absent, noMode, snapRange, noSpan, wrongForm, wrongCode, wrongStack)
	if len(kinds) != 8+16 {
		t.Errorf("%d kinds of instructions were run: %v", len(kinds), kinds)
	}
}

// Spans of drawn instructions, without any rule in it: those that may be.
func TestStrewnCodes(t *testing.T) {
	ran := map[int]int{}
	for k := range 60000 {
		d := drawer{below: draw(uint64(2000000 + k)), regs: 3, consts: 3}
		var l []api.Instr
		for range 1 + d.below(9) {
			switch d.below(3) {
			case 0:
				l = append(l, d.leaf()...)
			case 1:
				l = append(l, api.Instr{Kind: api.InstrOper, A: 1 + d.below(16)})
			default:
				l = append(l, api.Instr{Kind: api.InstrAnd + api.InstrKind(d.below(4)), A: len(l) + 1 + d.below(3)})
			}
		}
		x := laid([]rule{{l, []thing{halt()}}, {d.expr(3), []thing{{api.Row{Kind: api.DoSet}, [4][]api.Instr{3: l}}}}})
		x.Consts = []int64{1, 0, -2}
		if table.Check(x) != api.OK {
			continue
		}
		ran[len(l)]++
		for range 6 {
			m, w := d.mode(x, 0), d.snap(0)
			for _, s := range spansOf(x) {
				expectValue(t, x, s, m, w, modelValue(x, s, m, w))
			}
			expectAsModel(t, x, m, w, true)
		}
	}
	expectReached(t, ran, 5, 1, 2, 3, 4, 5, 6, 7)
}

// All short codes that may be, with each of few numbers in two registers.
func TestAllShortCodes(t *testing.T) {
	ran := 0
	for length := 1; length <= 5; length++ {
		letters := code("reg 0, reg 1, not, sub")
		for a := 1; a <= length; a++ {
			for kind := api.InstrAnd; kind <= api.InstrJump; kind++ {
				letters = append(letters, api.Instr{Kind: kind, A: a})
			}
		}
		x := asking("reg 0")
		x.Code, x.States[0][0].When = make([]api.Instr, length), span(0, length)
		var all func(at int)
		all = func(at int) {
			if at < length {
				for _, in := range letters {
					if !jumps(in.Kind) || in.A > at {
						x.Code[at] = in
						all(at + 1)
					}
				}
				return
			}
			x.States[0][0].Fields, x.States[0][0].Regs = table.Reads(x, span(0, length))
			if table.Check(x) != api.OK {
				return
			}
			ran++
			for k := range int64(9) {
				m := mode(0, k%3-1, k/3*2-1, 0)
				expectValue(t, x, span(0, length), m, api.Snap{}, modelValue(x, span(0, length), m, api.Snap{}))
			}
		}
		all(0)
	}
	if ran < 1000 {
		t.Errorf("only %d were run", ran)
	}
}

// What is drawn may be, but for its slips.
func TestWhatIsDrawnMayBe(t *testing.T) {
	for k := range 2000 {
		d := &drawer{below: draw(uint64(3000000 + k))}
		if x := d.table(); table.Check(x) != api.OK {
			t.Fatalf("%s may not be: %d", short(x), table.Check(x))
		}
	}
}
