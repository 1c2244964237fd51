package mean_test

import (
	"slices"
	"testing"

	"tripwire/api"
	"tripwire/mean"
	"tripwire/parse"
	"tripwire/snap"
	"tripwire/types"
)

// A model by the chapter's words: numbers without bounds, results that carry their faults upwards, names that stand for numbers.

type world struct {
	regs map[string]int64
	snap api.Snap
}

func (x world) field(f api.Field) int64 {
	return [...]int64{0, x.snap.Bid, x.snap.Ask, x.snap.Last, x.snap.Volume, x.snap.Now, x.snap.Open}[f]
}

// value is what the chapter's table says of a node.
func (x world) value(n api.Node) result {
	switch n.Kind {
	case api.NodeLit:
		return result{n: n.N}
	case api.NodeReg:
		return result{n: x.regs[n.Name]}
	case api.NodeField:
		if n.Field <= 3 && x.field(n.Field) == 0 {
			return result{no: absent}
		}
		return result{n: x.field(n.Field)}
	case api.NodeHas:
		return said(x.field(n.Field) > 0)
	}
	first := x.value(n.Kids[0])
	if first.no != api.OK || n.Kind == api.NodeConv {
		return first
	}
	switch {
	case n.Kind == api.NodeCond:
		return x.value(n.Kids[2-first.n])
	case n.Oper == api.OperNot:
		return said(first.n == 0)
	case n.Oper == api.OperAnd && first.n == 0, n.Oper == api.OperOr && first.n == 1:
		return first
	case n.Oper == api.OperNeg, n.Oper == api.OperAbs:
		return oneOf(n.Oper, first.n)
	}
	second := x.value(n.Kids[1])
	if second.no != api.OK || n.Oper == api.OperAnd || n.Oper == api.OperOr {
		return second
	}
	return twoOf(n.Oper, first.n, second.n)
}

// modelIsMode is what the chapter says of a mode.
func modelIsMode(s api.Strategy, m api.Mode) bool {
	is := m.State >= 0 && m.State < len(s.States) && len(m.Regs) == len(s.Regs)
	for k := 0; is && k < len(m.Regs); k++ {
		allowed := map[api.Type][]int64{tBool: {0, 1}, tSide: {1, 2}}[s.Regs[k].Type]
		is = allowed == nil || slices.Contains(allowed, m.Regs[k])
	}
	return is
}

func modelWorld(s api.Strategy, m api.Mode, w api.Snap) (world, api.Errno) {
	if no, _ := parse.Wrong(types.Check(s)); no != api.OK {
		return world{}, no
	}
	if !modelIsMode(s, m) {
		return world{}, noMode
	}
	x := world{regs: map[string]int64{}, snap: w}
	for k, r := range s.Regs {
		x.regs[r.Name] = m.Regs[k]
	}
	return x, snap.Check(w)
}

func modelValue(s api.Strategy, n api.Node, m api.Mode, w api.Snap) result {
	x, no := modelWorld(s, m, w)
	if no != api.OK {
		return result{no: no}
	}
	if _, err := types.Of(s, n); err != nil {
		no, _ := parse.Wrong(err)
		return result{no: no}
	}
	return x.value(n)
}

// modelDo is one thing done: what it lets out, if that is something, and its fault. Names are looked for one by one.
func modelDo(s api.Strategy, d api.Do, x world, m *api.Mode, f *api.Firing) api.Errno {
	var numbers [4]int64
	for k, n := range []api.Node{d.Side, d.Qty, d.Price, d.Value} {
		if n.Kind == 0 {
			continue
		}
		r := x.value(n)
		if r.no != api.OK {
			return r.no
		}
		numbers[k] = r.n
	}
	slot := 1 + slices.IndexFunc(s.Slots, func(x api.Slot) bool { return x.Name == d.Name })
	a := api.Action{Side: api.Side(numbers[0]), Qty: numbers[1], Price: numbers[2], Slot: slot, Kind: d.Order}
	switch d.Kind {
	case api.DoSubmit, api.DoAmend, api.DoCancel:
		a.Act = api.Act(d.Kind)
		f.Actions = append(f.Actions, a)
	case api.DoSet:
		x.regs[d.Name] = numbers[3]
	case api.DoGoto:
		m.State = slices.IndexFunc(s.States, func(x api.State) bool { return x.Name == d.Name })
	case api.DoHalt:
		f.Status = api.Halted
	}
	return api.OK
}

func modelTurn(s api.Strategy, m api.Mode, w api.Snap, granted bool) (api.Firing, api.Mode, api.Errno) {
	x, no := modelWorld(s, m, w)
	if no != api.OK {
		return api.Firing{}, api.Mode{}, no
	}
	for k, r := range s.States[m.State].Rules {
		guard := x.value(r.When)
		if guard.no != api.OK {
			return faults(guard.no), m, api.OK
		}
		if guard.n == 0 {
			continue
		}
		f, next := fires(k), api.Mode{State: m.State}
		for _, d := range r.Dos {
			if no := modelDo(s, d, x, &next, &f); no != api.OK {
				return faults(no), m, api.OK
			}
		}
		if len(f.Actions) > 0 && !granted {
			return isRefused(k), m, api.OK
		}
		for _, r := range s.Regs {
			next.Regs = append(next.Regs, x.regs[r.Name])
		}
		return f, next, api.OK
	}
	return nothing(), m, api.OK
}

// modelStart is what registers begin with.
func modelStart(s api.Strategy) (api.Mode, api.Errno) {
	no, _ := parse.Wrong(types.Check(s))
	if no != api.OK {
		return api.Mode{}, no
	}
	var m api.Mode
	for _, r := range s.Regs {
		if r.Init.Kind == api.NodeLit {
			m.Regs = append(m.Regs, r.Init.N)
		} else {
			m.Regs = append(m.Regs, -r.Init.Kids[0].N)
		}
	}
	return m, api.OK
}

// exprsOf are all expressions of a strategy: what registers begin with, what rules ask, what their things have.
func exprsOf(s api.Strategy) []api.Node {
	var all []api.Node
	for _, r := range s.Regs {
		all = append(all, r.Init)
	}
	for _, x := range s.States {
		for _, r := range x.Rules {
			all = append(all, r.When)
			for _, d := range r.Dos {
				for _, n := range []api.Node{d.Side, d.Qty, d.Price, d.Value} {
					if n.Kind != 0 {
						all = append(all, n)
					}
				}
			}
		}
	}
	return all
}

// drawnStrategies are many, most of which fit.
func drawnStrategies(from uint64, count int) []api.Strategy {
	var all []api.Strategy
	for k := range count {
		d := drawer{below: draw(from + uint64(k)), slips: []int{0, 0, 0, 100}[k%4]}
		s := d.strategy()
		if k%11 == 0 {
			s = d.strewn(s)
		}
		all = append(all, s)
	}
	return all
}

// seldom is a number in which ends and noughts are frequent.
func (d drawer) seldom() int64 {
	if d.below(3) == 0 {
		return edges()[d.below(len(edges()))]
	}
	return int64(d.below(25)) - 8
}

// mode is one of a strategy, or now and then none.
func (d drawer) mode(s api.Strategy) api.Mode {
	m := api.Mode{State: d.below(max(1, len(s.States)))}
	for _, r := range s.Regs {
		n := d.seldom()
		if r.Type == tBool {
			n = int64(d.below(2))
		} else if r.Type == tSide {
			n = int64(1 + d.below(2))
		}
		m.Regs = append(m.Regs, n)
	}
	if d.slip() {
		switch d.below(4) {
		case 0:
			m.State = []int{-1, len(s.States), 99}[d.below(3)]
		case 1:
			m.Regs = append(m.Regs, 1)
		case 2:
			m.Regs = m.Regs[:d.below(len(m.Regs)+1)]
		default:
			for k := range m.Regs {
				m.Regs[k] = int64(d.below(5)) - 1
			}
		}
	}
	return m
}

// snap is a snapshot, or now and then none; often something is not there.
func (d drawer) snap() api.Snap {
	some := func(most int64) int64 {
		switch d.below(6) {
		case 0, 1:
			return 0
		case 2:
			return most
		}
		return int64(1 + d.below(12))
	}
	w := api.Snap{Bid: some(api.MaxPrice), Ask: some(api.MaxPrice), Last: some(api.MaxPrice), Volume: some(api.MaxVolume), Now: some(api.MaxTime), Open: some(api.MaxOpen)}
	if d.slip() {
		w.Now = -1
	}
	return w
}

// expectAsModel tells whether a turn is what the model says, and answers it.
func expectAsModel(t *testing.T, s api.Strategy, m api.Mode, w api.Snap, granted bool) (api.Firing, api.Mode, api.Errno) {
	t.Helper()
	f, next, no := mean.Turn(s, m, w, granted)
	want, wantNext, wantNo := modelTurn(s, m, w, granted)
	if !sameFiring(f, want) || !sameMode(next, wantNext) || no != wantNo {
		t.Errorf("Turn(%s) with %v, %v, %t is %+v, %v, %d; want %+v, %v, %d", short(s), m, w, granted, f, next, no, want, wantNext, wantNo)
	}
	return f, next, no
}

func TestDrawnTurns(t *testing.T) {
	reached := map[string]int{}
	for k, s := range drawnStrategies(100, 4000) {
		d := drawer{below: draw(uint64(50000 + k)), slips: 30}
		m, no := mean.Start(s)
		if want, wantNo := modelStart(s); !sameMode(m, want) || no != wantNo {
			t.Errorf("Start(%s) is %v, %d; want %v, %d", short(s), m, no, want, wantNo)
		}
		for range 12 {
			w, granted := d.snap(), d.below(4) > 0
			f, next, no := expectAsModel(t, s, m, w, granted)
			reached[outcome(f, no)]++
			m = next
			if no != api.OK || f.Status != api.Running || d.below(3) == 0 {
				m = d.mode(s)
			}
		}
	}
	for _, kind := range []string{"nothing", "fires", "fires actions", "halts", "halts actions", "refused", "faults 10", "faults 11", "faults 170", "error 171", "error 100", "error 120", "error 151", "error 152"} {
		if reached[kind] < 50 {
			t.Errorf("%q was reached %d times; all: %v", kind, reached[kind], reached)
		}
	}
}

// outcome is a turn's kind.
func outcome(f api.Firing, no api.Errno) string {
	switch {
	case no != api.OK:
		return no.Error()
	case f.Status == api.Faulted:
		return "faults " + f.Code.Error()[len("error "):]
	case f.Refused:
		return "refused"
	case f.Rule < 0:
		return "nothing"
	}
	kind := "fires"
	if f.Status == api.Halted {
		kind = "halts"
	}
	if len(f.Actions) > 0 {
		kind += " actions"
	}
	return kind
}

func TestDrawnValues(t *testing.T) {
	reached := map[api.Errno]int{}
	kinds := map[[2]int]int{}
	for k, s := range drawnStrategies(200000, 1500) {
		d := drawer{below: draw(uint64(90000 + k)), regs: s.Regs}
		all := exprsOf(s)
		for range 5 {
			all = append(all, d.expr(d.typed(), 1+d.below(30)))
		}
		for _, n := range all {
			d.slips = 60
			m, w := d.mode(s), d.snap()
			d.slips = 0
			want := modelValue(s, n, m, w)
			expectResult(t, s, n, m, w, want)
			reached[want.no]++
			if want.no == api.OK {
				kinds[[2]int{int(n.Kind), int(n.Oper)}]++
			}
		}
	}
	for _, no := range []api.Errno{api.OK, over, zero, absent, noMode, snapRange, fit, wrongForm} {
		if reached[no] < 50 {
			t.Errorf("%d was reached %d times; all: %v", no, reached[no], reached)
		}
	}
	if len(kinds) < 6+18 {
		t.Errorf("only %d kinds of nodes had values: %v", len(kinds), kinds)
	}
}
