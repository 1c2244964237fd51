package machine_test

import (
	"math/big"

	"tripwire/api"
	"tripwire/snap"
	"tripwire/table"
)

// A model by the chapter's words: numbers without bounds, stacks that are lists handed on from one instruction to the next, results that carry their steps and faults upwards.

func bounded(n *big.Int) result {
	if !n.IsInt64() {
		return result{no: over}
	}
	return result{n: n.Int64()}
}

func said(is bool) result {
	if is {
		return result{n: 1}
	}
	return result{}
}

// operOf is what chapters 17 and 20 say of an Oper, by the library's numbers; of one that takes one off, b is not looked at.
func operOf(o api.Oper, a, b int64) result {
	x, y := big.NewInt(a), big.NewInt(b)
	against := x.Cmp(y)
	switch o {
	case api.OperNot:
		return said(x.Sign() == 0)
	case api.OperNeg:
		return bounded(x.Neg(x))
	case api.OperAbs:
		return bounded(x.Abs(x))
	case api.OperMin, api.OperMax:
		if (against < 0) == (o == api.OperMin) {
			return bounded(x)
		}
		return bounded(y)
	case api.OperAdd:
		return bounded(x.Add(x, y))
	case api.OperSub:
		return bounded(x.Sub(x, y))
	case api.OperMul:
		return bounded(x.Mul(x, y))
	case api.OperDiv, api.OperMod:
		if y.Sign() == 0 {
			return result{no: zero}
		}
		quotient, rest := x.QuoRem(x, y, new(big.Int))
		if o == api.OperDiv {
			return bounded(quotient)
		}
		return bounded(rest)
	}
	return said([]bool{against == 0, against != 0, against < 0, against <= 0, against > 0, against >= 0}[o-api.OperEq])
}

// chain is a stack: the number on top, and what lies below.
type chain struct {
	top   int64
	below *chain
}

func fieldOf(w api.Snap, f int) int64 {
	return [...]int64{0, w.Bid, w.Ask, w.Last, w.Volume, w.Now, w.Open}[f]
}

// modelStep is what one instruction makes of a stack: the stack behind it, where it goes on, and its fault.
func modelStep(x api.Table, at int, l *chain, regs []int64, w api.Snap) (*chain, int, api.Errno) {
	in := x.Code[at]
	on := at + 1
	lays := func(r result) (*chain, int, api.Errno) { return &chain{r.n, l}, on, r.no }
	switch in.Kind {
	case api.InstrConst:
		return lays(result{n: x.Consts[in.A]})
	case api.InstrReg:
		return lays(result{n: regs[in.A]})
	case api.InstrField:
		if n := fieldOf(w, in.A); n != 0 || in.A > 3 {
			return lays(result{n: n})
		}
		return nil, 0, absent
	case api.InstrHas:
		return lays(said(fieldOf(w, in.A) > 0))
	case api.InstrJump:
		return l, in.A, api.OK
	}
	top, rest := l.top, l.below
	switch {
	case in.Kind == api.InstrElse && top == 0:
		return rest, in.A, api.OK
	case in.Kind == api.InstrAnd && top == 0, in.Kind == api.InstrOr && top != 0:
		return l, in.A, api.OK
	case in.Kind != api.InstrOper:
		return rest, on, api.OK
	}
	a := top
	if in.A > 3 {
		a, rest = rest.top, rest.below
	}
	l = rest
	return lays(operOf(api.Oper(in.A), a, top))
}

// modelRun is what a span comes to.
func modelRun(x api.Table, s api.Span, regs []int64, w api.Snap) result {
	var l *chain
	steps := 0
	for at := s.From; at != s.To; {
		var no api.Errno
		l, at, no = modelStep(x, at, l, regs, w)
		steps++
		if no != api.OK {
			return result{0, steps, no}
		}
	}
	return result{l.top, steps, api.OK}
}

// modelWrong is the error that comes first.
func modelWrong(x api.Table, m api.Mode, w api.Snap) api.Errno {
	switch no := table.Check(x); {
	case no != api.OK:
		return no
	case m.State < 0 || m.State > len(x.States)-1 || len(m.Regs) != len(x.Regs):
		return noMode
	}
	return snap.Check(w)
}

func modelValue(x api.Table, s api.Span, m api.Mode, w api.Snap) result {
	if no := modelWrong(x, m, w); no != api.OK {
		return result{no: no}
	}
	for _, other := range spansOf(x) {
		if other.From == s.From && other.To == s.To {
			return modelRun(x, s, m.Regs, w)
		}
	}
	return result{no: noSpan}
}

// modelRow does a row to registers, to a firing and to a state; or tells its fault. Its steps are added to the firing's.
func modelRow(x api.Table, r api.Row, w api.Snap, next *api.Mode, f *api.Firing) api.Errno {
	var numbers [4]int64
	for k, s := range []api.Span{r.Side, r.Qty, r.Price, r.Value} {
		if s.To == 0 {
			continue
		}
		is := modelRun(x, s, next.Regs, w)
		f.Steps += is.steps
		if is.no != api.OK {
			return is.no
		}
		if k == 0 && is.n != 1 && is.n != 2 {
			return noSide
		}
		numbers[k] = is.n
	}
	switch r.Kind {
	case api.DoSet:
		next.Regs[r.Index] = numbers[3]
	case api.DoGoto:
		next.State = r.Index
	case api.DoHalt:
		f.Status = api.Halted
	default:
		f.Actions = append(f.Actions, api.Action{Act: api.Act(r.Kind), Kind: r.Order, Side: api.Side(numbers[0]), Qty: numbers[1], Price: numbers[2], Slot: r.Index})
	}
	return api.OK
}

func modelTurn(x api.Table, m api.Mode, w api.Snap, granted bool) (api.Firing, api.Mode, api.Errno) {
	if no := modelWrong(x, m, w); no != api.OK {
		return api.Firing{}, api.Mode{}, no
	}
	f := nothing(0)
	for k, g := range x.States[m.State] {
		is := modelRun(x, g.When, m.Regs, w)
		f.Steps += is.steps
		if is.no != api.OK {
			return faults(f.Steps, is.no), m, api.OK
		}
		if is.n == 0 {
			continue
		}
		next := mode(m.State, append([]int64{}, m.Regs...)...)
		for _, r := range g.Rows {
			if no := modelRow(x, r, w, &next, &f); no != api.OK {
				return faults(f.Steps, no), m, api.OK
			}
		}
		if len(f.Actions) > 0 && !granted {
			return isRefused(f.Steps, k), m, api.OK
		}
		f.Rule = k
		return f, next, api.OK
	}
	return f, m, api.OK
}
