package table_test

import (
	"testing"

	"tripwire/api"
	"tripwire/table"
)

// coded is no table that may be, but for its instructions.
func coded(text string) api.Table { return api.Table{Code: code(text)} }

func TestReads(t *testing.T) {
	x := whole()
	expectReads(t, x, x.States[0][0].When, 1<<1, 1<<0)
	expectReads(t, x, x.States[0][1].When, 1<<3|1<<4, 1<<1)
	expectReads(t, x, x.States[0][0].Rows[0].Price, 1<<1, 0)
	expectReads(t, x, x.States[2][0].When, 1<<5, 0)
	expectReads(t, x, span(0, len(x.Code)), 1<<1|1<<2|1<<3|1<<4|1<<5|1<<6, 1<<0|1<<1|1<<2)
}

// A field and a has are of one mask, a register of the other; nothing else is read, whatever its A is.
func TestReadsOfEachKind(t *testing.T) {
	for kind := range 256 {
		for a := -2; a <= 18; a++ {
			x := api.Table{Code: []api.Instr{{Kind: api.InstrKind(kind), A: a}}}
			var fields api.Mask
			var regs uint16
			for bit := range 16 {
				if a == bit && (kind == 2 || kind == 3) {
					fields = 1 << bit
				}
				if a == bit && kind == 4 {
					regs = 1 << bit
				}
			}
			expectReads(t, x, span(0, 1), fields, regs)
		}
	}
}

// Bits 0 to 15 are told; an A below 0, or above 15, has none, however far it is.
func TestReadsOfEachBit(t *testing.T) {
	expectReads(t, coded("field 0, has 15, reg 15"), span(0, 3), 1|1<<15, 1<<15)
	expectReads(t, coded("reg 0, reg 15, has 0"), span(0, 3), 1, 1|1<<15)
	for _, a := range append(far(), 16, 17, 31, 32, 33, 63, 64, 65, 127, 255, 256) {
		x := coded("field 1, field 2, has 3, reg 4, reg 5")
		x.Code[1].A, x.Code[3].A = a, a
		expectReads(t, x, span(0, 5), 1<<1|1<<3, 1<<5)
		x.Code[2].A, x.Code[4].A = a, a
		expectReads(t, x, span(0, 5), 1<<1, 0)
	}
}

// A span is read as far as there are instructions: also where it begins ahead of them, ends behind them, or is turned about.
func TestReadsOfEachSpan(t *testing.T) {
	x := coded("field 1, reg 2, has 3, reg 4, field 5")
	ends := []int{least, least + 1, -4097, -6, -5, -4, -2, -1, 0, 1, 2, 3, 4, 5, 6, 7, 10, 4096, 4097, 1 << 32, greatest - 1, greatest}
	for _, from := range ends {
		for _, to := range ends {
			fields, regs := modelReads(x, span(from, to))
			expectReads(t, x, span(from, to), fields, regs)
			expectReads(t, coded(""), span(from, to), 0, 0)
		}
	}
	expectReads(t, x, span(least, greatest), 1<<1|1<<3|1<<5, 1<<2|1<<4)
	expectReads(t, x, span(-3, 2), 1<<1, 1<<2)
	expectReads(t, x, span(4, 99), 1<<5, 0)
	expectReads(t, x, span(5, 99), 0, 0)
	expectReads(t, x, span(-9, 0), 0, 0)
	expectReads(t, x, span(3, 3), 0, 0)
	expectReads(t, x, span(4, 1), 0, 0)
	expectReads(t, x, span(greatest, least), 0, 0)
	expectReads(t, x, span(1, 2), 0, 1<<2)
}

// It is asked of any table, be it of any form, and of any length; nothing but its instructions is looked at.
func TestReadsOfAnyTable(t *testing.T) {
	expectReads(t, api.Table{}, span(0, 1), 0, 0)
	x := coded("field 1, reg 2")
	x.Name, x.Slots, x.States = "bid", -1, [][]api.Guard{{{When: span(7, 3), Fields: 99, Regs: 99}}}
	expectReads(t, x, span(0, 2), 1<<1, 1<<2)
	long := api.Table{Code: times(100000, api.Instr{Kind: api.InstrField, A: 16})}
	long.Code[99999].A = 6
	expectReads(t, long, span(0, 99999), 0, 0)
	expectReads(t, long, span(5, 100000), 1<<6, 0)
	if fields, _ := table.Reads(long, span(99999, 200000)); fields != 1<<6 {
		t.Error(fields)
	}
}
