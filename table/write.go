package table

import (
	"tripwire/api"
	"tripwire/wire"
)

// content is what the frame of a table has: its name, and numbers alone behind that.
func content(t api.Table) string {
	var w writer
	w.signed(t.Regs)
	w.put(t.Slots)
	w.signed(t.Consts)
	w.put(len(t.Code))
	for _, in := range t.Code {
		w.put(int(in.Kind), in.A)
	}
	w.put(len(t.States))
	for _, guards := range t.States {
		w.put(len(guards))
		for _, g := range guards {
			w.guard(g)
		}
	}
	return wire.Put(wire.PutText("", t.Name), w.numbers...)
}

// writer gathers numbers, so that they are written at once.
type writer struct {
	numbers []uint64
}

// put has numbers that are not below 0.
func (w *writer) put(l ...int) {
	for _, n := range l {
		w.numbers = append(w.numbers, uint64(n))
	}
}

// signed has how many numbers there are, and these.
func (w *writer) signed(l []int64) {
	w.put(len(l))
	for _, n := range l {
		w.numbers = append(w.numbers, wire.Zig(n))
	}
}

func (w *writer) guard(g api.Guard) {
	w.put(length(g.When), len(g.Rows))
	for _, row := range g.Rows {
		w.put(int(row.Kind), int(row.Order), row.Index)
		for _, x := range has(row) {
			w.put(length(x))
		}
	}
}
