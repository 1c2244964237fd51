package machine

import (
	"tripwire/api"
	"tripwire/snap"
)

// fault is what gives up all that is being reckoned.
type fault api.Errno

// reckoned is what reckon comes to; or nothing, and the fault by which it gave up.
func reckoned[T any](reckon func() T) (is T, why api.Errno) {
	defer func() {
		if f, gaveUp := recover().(fault); gaveUp {
			why = api.Errno(f)
		}
	}()
	return reckon(), api.OK
}

// runner runs spans of a table that may be, so that none of them leaves the stack, the code, or the lists.
type runner struct {
	stack
	table api.Table
	snap  api.Snap
	regs  []int64
	// deeds are kept, as each would be made anew where it is asked for.
	deeds deeds
	steps int
}

// begin is a runner with a mode's registers, in memory of its own.
func begin(t api.Table, m api.Mode, w api.Snap) *runner {
	r := &runner{table: t, snap: w, regs: copied(m).Regs}
	r.deeds = r.opers()
	return r
}

// value is what lies on top at the end of a span.
func (r *runner) value(x api.Span) int64 {
	r.high = 0
	at := x.From
next:
	if at == x.To {
		return r.top()
	}
	in := r.table.Code[at]
	at++
	r.steps++
	switch in.Kind {
	case api.InstrConst:
		r.lay(r.table.Consts[in.A])
	case api.InstrField:
		r.lay(r.field(api.Field(in.A)))
	case api.InstrHas:
		r.lay(truth(snap.Get(r.snap, api.Field(in.A)) != 0))
	case api.InstrReg:
		r.lay(r.regs[in.A])
	case api.InstrOper:
		r.deeds[in.A]()
	case api.InstrAnd:
		if r.top() == 0 {
			at = in.A
			goto next
		}
		r.take()
	case api.InstrOr:
		if r.top() != 0 {
			at = in.A
			goto next
		}
		r.take()
	case api.InstrElse:
		if r.take() == 0 {
			at = in.A
		}
	case api.InstrJump:
		at = in.A
	}
	goto next
}

// field is a number of the snapshot; a price of 0 is none.
func (r *runner) field(f api.Field) int64 {
	n := snap.Get(r.snap, f)
	switch f {
	case api.FieldBid, api.FieldAsk, api.FieldLast:
		if n == 0 {
			panic(fault(api.ErrMeanAbsent))
		}
	}
	return n
}

func truth(is bool) int64 {
	if is {
		return 1
	}
	return 0
}
