package eval

import (
	"tripwire/api"
	"tripwire/machine"
	"tripwire/table"
)

// run is what a span comes to in a mode, or 0 and its fault; its steps are counted.
func (e *Eval) run(x api.Span, m mode) (int64, api.Errno) {
	t := alone(e.table, x)
	n, steps, why := machine.Value(t, t.States[0][0].When, api.Mode{Regs: m.regs[:len(t.Regs)]}, e.snap)
	e.steps += steps
	return n, why
}

// alone is a table whose one guard has the instructions of a span of another table. It is handed to the machine for that one, as the machine looks through all of what it is handed.
func alone(t api.Table, x api.Span) api.Table {
	code := make([]api.Instr, x.To-x.From)
	copy(code, t.Code[x.From:x.To])
	for i := range code {
		switch code[i].Kind {
		case api.InstrAnd, api.InstrOr, api.InstrElse, api.InstrJump:
			code[i].A -= x.From
		}
	}
	t.Code = code
	g := api.Guard{When: api.Span{To: len(code)}, Rows: []api.Row{{Kind: api.DoHalt}}}
	g.Fields, g.Regs = table.Reads(t, g.When)
	t.States = [][]api.Guard{{g}}
	return t
}
