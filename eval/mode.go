package eval

import "tripwire/api"

// mode is a state and registers; those that a table has not are noughts.
type mode struct {
	state int
	regs  [api.MaxRegs]int64
}

// begin is the mode in which a table begins.
func begin(t api.Table) mode {
	var m mode
	copy(m.regs[:], t.Regs)
	return m
}

// changed is the registers (bit 1 << r) whose numbers differ in two modes.
func changed(a, b mode) uint16 {
	all := uint16(0)
	if a.regs == b.regs {
		return all
	}
	for r, n := range a.regs {
		if n != b.regs[r] {
			all |= 1 << r
		}
	}
	return all
}
