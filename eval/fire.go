package eval

import "tripwire/api"

// fire does what the first rule does whose guard holds, all of it or nothing.
func (e *Eval) fire(grant func(n int) bool) api.Firing {
	rule, why := e.first()
	if why != api.OK {
		e.fault(why)
	}
	if rule == noRule {
		return e.nothing()
	}
	b, why := e.reckon(e.table.States[e.state][rule].Rows)
	if why != api.OK {
		e.fault(why)
		return e.nothing()
	}
	if n := len(b.actions); n > 0 && !grant(n) {
		return api.Firing{Rule: rule, Refused: true, Status: e.status}
	}
	e.take(b)
	return api.Firing{Rule: rule, Actions: b.actions, Status: e.status}
}

// nothing is what is told where no rule fires.
func (e *Eval) nothing() api.Firing {
	return api.Firing{Rule: noRule, Status: e.status, Code: e.code}
}

func (e *Eval) fault(why api.Errno) { e.status, e.code = api.Faulted, why }

// take makes what a body has done the evaluator's.
func (e *Eval) take(b body) {
	e.forget(0, changed(e.mode, b.mode))
	e.mode = b.mode
	if b.halted {
		e.status = api.Halted
	}
}
