package eval

import "tripwire/api"

// noRule is told where none fires.
const noRule = -1

// place is where a guard stands: in which state, and there as which one.
type place struct {
	state int
	guard int
}

// forget takes away what is known of guards that read any of these fields and registers.
func (e *Eval) forget(fields api.Mask, regs uint16) {
	for at := range e.known {
		if g := e.table.States[at.state][at.guard]; g.Fields&fields != 0 || g.Regs&regs != 0 {
			delete(e.known, at)
		}
	}
}

// first is which guard of the state at hand is the first that holds; or the fault that is met ahead of it.
func (e *Eval) first() (int, api.Errno) {
	for g := range e.table.States[e.state] {
		is := e.ask(g)
		if is.Code != api.OK {
			return noRule, is.Code
		}
		if is.Value != 0 {
			return g, api.OK
		}
	}
	return noRule, api.OK
}

// ask is what is known of a guard of the state at hand, which is run where that is nothing.
func (e *Eval) ask(guard int) api.Cached {
	at := place{e.state, guard}
	is, clean := e.known[at]
	if !clean {
		n, why := e.run(e.table.States[e.state][guard].When, e.mode)
		is = api.Cached{Clean: true, Value: n, Code: why}
		e.known[at] = is
	}
	return is
}
