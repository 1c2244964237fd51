package table

import (
	"tripwire/api"
	"tripwire/wire"
)

// fault is what gives up where bytes cannot be read on.
type fault struct{}

func need(is bool) {
	if !is {
		panic(fault{})
	}
}

// sofar is what has been read of a table, and up to which place its instructions have found their spans.
type sofar struct {
	api.Table
	spent int
}

// span is the next so many instructions.
func (s *sofar) span(n int) api.Span {
	from := s.spent
	s.spent += n
	return api.Span{From: from, To: s.spent}
}

// guard has these rows, and reads what its instructions read.
func (s *sofar) guard(when api.Span, rows []api.Row) api.Guard {
	fields, regs := Reads(s.Table, when)
	return api.Guard{When: when, Fields: fields, Regs: regs, Rows: rows}
}

// reader goes through the content of a frame.
type reader struct {
	sofar
	bytes string
	at    int
}

// unframed is the table that stands in a frame, which may be one that may not be.
func unframed(b string) api.Table {
	bytes, behind, no := wire.Unframe(b, 0)
	need(no == api.OK && behind == len(b))
	r := &reader{bytes: bytes}
	r.read()
	need(r.at == len(bytes))
	return r.Table
}

// read has one part behind the other, as they stand there.
func (r *reader) read() {
	r.Name = r.text()
	r.Regs = list(r.upto(api.MaxRegs), r.signed)
	r.Slots = r.upto(api.MaxSlots)
	r.Consts = list(r.upto(api.MaxConsts), r.signed)
	r.Code = list(r.upto(api.MaxCode), r.instr)
	r.States = list(r.upto(api.MaxStates), r.state)
}

// list is so many things that are read one by one. What room is left behind them is cut off, so that it is nobody's.
func list[T any](n int, one func() T) []T {
	var l []T
	for range n {
		l = append(l, one())
	}
	return l[:n:n]
}

func (r *reader) text() string {
	s, behind, no := wire.TakeText(r.bytes, r.at)
	need(no == api.OK)
	r.at = behind
	return s
}

func (r *reader) number() uint64 {
	n, behind, no := wire.Take(r.bytes, r.at)
	need(no == api.OK)
	r.at = behind
	return n
}

func (r *reader) signed() int64 { return wire.Zag(r.number()) }

// upto is a number that is at most so great: a greater one is no table's, and might not fit where it is laid.
func (r *reader) upto(most int) int {
	n := r.number()
	need(n <= uint64(most))
	return int(n)
}

func (r *reader) instr() api.Instr {
	kind := r.upto(int(api.InstrJump))
	return api.Instr{Kind: api.InstrKind(kind), A: r.upto(api.MaxCode)}
}

func (r *reader) state() []api.Guard { return list(r.upto(api.MaxRules), r.rule) }

func (r *reader) rule() api.Guard {
	when := r.length()
	return r.guard(when, list(r.upto(api.MaxDos), r.row))
}

// length reads that of a span.
func (r *reader) length() api.Span { return r.span(r.upto(api.MaxCode)) }

func (r *reader) row() api.Row {
	kind := api.DoKind(r.upto(int(api.DoHalt)))
	order := api.Kind(r.upto(int(api.Post)))
	index := r.upto(max(api.MaxSlots, api.MaxRegs, api.MaxStates))
	var x spans
	for i, is := range partsOf(kind, order) {
		if is {
			x[i] = r.length()
		}
	}
	return api.Row{Kind: kind, Order: order, Index: index, Side: x[0], Qty: x[1], Price: x[2], Value: x[3]}
}
