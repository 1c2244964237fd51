package table_test

import (
	"testing"

	"tripwire/api"
)

// Fields and Regs of a When are just what it reads: no bit less, no bit more.
func TestMasks(t *testing.T) {
	for _, x := range []api.Table{exampleT(), whole(), asking("const 0"), asking("field 4, reg 2, oper 6, has 2, reg 0, oper 6, oper 6"), asking("reg 0, field 4, oper 6, has 1, oper 6, field 6, oper 6")} {
		expectCheck(t, x, api.OK)
		for s, guards := range x.States {
			for g := range guards {
				for bit := range 16 {
					expectCheck(t, change(x, func(x *api.Table) { x.States[s][g].Fields ^= 1 << bit }), wrongMask)
					expectCheck(t, change(x, func(x *api.Table) { x.States[s][g].Regs ^= 1 << bit }), wrongMask)
				}
				expectCheck(t, change(x, func(x *api.Table) { x.States[s][g].Fields ^= 1<<1 | 1<<2 }), wrongMask)
				expectCheck(t, change(x, func(x *api.Table) { x.States[s][g].Fields = ^x.States[s][g].Fields }), wrongMask)
			}
		}
	}
}

// What rows read is no business of a guard's, nor what other guards do.
func TestMasksAreOfWhenAlone(t *testing.T) {
	x := laid([]rule{when("has 1", set(0, "field 6, reg 2, oper 6")), when("reg 1", halt())})
	expectCheck(t, x, api.OK)
	if g := x.States[0]; g[0].Fields != 2 || g[0].Regs != 0 || g[1].Fields != 0 || g[1].Regs != 2 {
		t.Fatal(g)
	}
	expectCheck(t, change(x, func(x *api.Table) { x.States[0][0].Fields, x.States[0][0].Regs = 2|64, 4 }), wrongMask)
	expectCheck(t, change(x, func(x *api.Table) { x.States[0][0].Regs = 2 }), wrongMask)
	expectCheck(t, change(x, func(x *api.Table) {
		x.States[0][0].Fields, x.States[0][1].Fields = x.States[0][1].Fields, x.States[0][0].Fields
	}), wrongMask)
}

// A field that is named twice is one bit, and one that is asked for as has is the same bit.
func TestMasksOfWhatIsNamedTwice(t *testing.T) {
	x := asking("has 1, field 1, oper 6, field 1, oper 6, reg 2, oper 6, reg 2, oper 6")
	if g := x.States[0][0]; g.Fields != 2 || g.Regs != 4 {
		t.Fatal(g)
	}
	expectCheck(t, x, api.OK)
}

// slow has spans of three instructions each, so that in each of them several things can be wrong at once, in whichever order: two guards in one state, one in another.
func slow() api.Table {
	three := "const 0, oper 3, oper 3"
	return laid(
		[]rule{when(three, submit(api.Limit, 0, three, three, three), set(0, three)), when(three, amend(1, three, three), cancel(1))},
		[]rule{when(three, submit(api.Market, 0, three, three, ""), goTo(0))},
	)
}

// wrong is one thing that is made wrong in a span: what Check then says.
type wrong struct {
	span int
	kind api.Errno
}

// wrongs are all of them; of the spans of rows no masks.
func wrongs(x api.Table) []wrong {
	var all []wrong
	spans, guards := spansOf(x)
	for i := range spans {
		all = append(all, wrong{i, wrongCode}, wrong{i, wrongStack})
		if guards[i] != nil {
			all = append(all, wrong{i, wrongMask})
		}
	}
	return all
}

// made is a table of these wrongs; another each time it is asked for.
func made(x api.Table, variant int, all ...wrong) api.Table {
	x = copied(x)
	spans, guards := spansOf(x)
	for _, w := range all {
		first := spans[w.span].From
		switch w.kind {
		case wrongCode:
			x.Code[first+2] = []api.Instr{{Kind: 77}, {Kind: api.InstrJump, A: first + 2}, {Kind: api.InstrConst, A: -1}, {Kind: api.InstrOper, A: 17}}[variant%4]
		case wrongStack:
			x.Code[first] = []api.Instr{{Kind: api.InstrOper, A: 1}, {Kind: api.InstrJump, A: first + 2}}[variant%2]
		case wrongMask:
			guards[w.span].Fields, guards[w.span].Regs = api.Mask(variant%3), uint16(variant%3^1)
		}
	}
	return x
}

// Each wrong alone, each two of them, and each three: the first span's is told; within a span the code's, the stack's, the mask's, in this order.
func TestWhichErrorComesFirst(t *testing.T) {
	x := slow()
	expectCheck(t, x, api.OK)
	all := wrongs(x)
	if len(all) != 11*2+3 {
		t.Fatal(len(all))
	}
	for i, a := range all {
		for variant := range 12 {
			expectCheck(t, made(x, variant, a), a.kind)
		}
		for j, b := range all[i+1:] {
			// They stand in the order in which they are told.
			expectCheck(t, made(x, i+j, a, b), a.kind)
			expectCheck(t, made(x, i+j+1, b, a), a.kind)
			for k, c := range all[i+1+j+1:] {
				expectCheck(t, made(x, i+j+k, c, a, b), a.kind)
			}
		}
	}
	expectCheck(t, made(x, 0, all...), wrongCode)
	expectCheck(t, made(x, 0, all[1:]...), wrongStack)
	expectCheck(t, made(x, 0, all[2:]...), wrongMask)
	expectCheck(t, made(x, 0, all[3:]...), wrongCode)
	expectCheck(t, made(x, 0, all[4:]...), wrongStack)
}

// misshapes are ways in which a table is not well formed, each of which leaves the others as they are.
func misshapes() []func(x *api.Table) {
	return []func(x *api.Table){
		func(x *api.Table) { x.Name = "bid" },
		func(x *api.Table) { x.Regs = make([]int64, 13) },
		func(x *api.Table) { x.Slots = 5 },
		func(x *api.Table) { x.Consts = make([]int64, 1025) },
		func(x *api.Table) { x.Code = append(x.Code, make([]api.Instr, 4097)...) },
		func(x *api.Table) { x.States = append(x.States, make([][]api.Guard, 12)...) },
		func(x *api.Table) { x.States[1] = append(x.States[1], make([]api.Guard, 12)...) },
		func(x *api.Table) { x.States[1][0].Rows = append(x.States[1][0].Rows, make([]api.Row, 8)...) },
		func(x *api.Table) { x.States[1][0].Rows[0].Kind = 0 },
		func(x *api.Table) { x.States[1][0].Rows[1].Order = 1 },
		func(x *api.Table) { x.States[1][0].Rows[1].Index = 99 },
		func(x *api.Table) { x.States[1][0].Rows[0].Value = span(1, 2) },
		func(x *api.Table) { x.States[1][0].Rows[0].Qty.To++ },
		func(x *api.Table) { x.States[0][1].When.From-- },
		func(x *api.Table) {
			x.States[0][1].Rows = append([]api.Row{{Kind: api.DoHalt}}, x.States[0][1].Rows...)
		},
	}
}

// A table that is not well formed is told to be that, whatever else is wrong with it, and whichever of it is.
func TestFormComesFirst(t *testing.T) {
	x := slow()
	all := wrongs(x)
	for i, turn := range misshapes() {
		expectCheck(t, change(x, turn), wrongForm)
		for _, w := range all {
			expectCheck(t, change(made(x, i, w), turn), wrongForm)
		}
		expectCheck(t, change(made(x, i, all...), turn), wrongForm)
		for _, other := range misshapes()[i+1:] {
			expectCheck(t, change(change(x, other), turn), wrongForm)
		}
	}
	expectCheck(t, change(x, func(x *api.Table) {
		for _, turn := range misshapes() {
			turn(x)
		}
	}), wrongForm)
}
