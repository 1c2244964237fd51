package table_test

import (
	"testing"

	"tripwire/api"
)

func TestExampleT(t *testing.T) {
	expectCheck(t, exampleT(), api.OK)
	expectBound(t, exampleT(), 4, 0)
	expectReads(t, exampleT(), span(0, 4), 2, 0)
}

func TestExamplesOfCheck(t *testing.T) {
	instr := func(at int, text string) func(x *api.Table) {
		return func(x *api.Table) { x.Code[at] = code(text)[0] }
	}
	guard := func(turn func(g *api.Guard)) func(x *api.Table) {
		return func(x *api.Table) { turn(&x.States[0][0]) }
	}
	for _, c := range []struct {
		but  func(x *api.Table)
		want api.Errno
	}{
		{instr(1, "and 5"), wrongCode},
		{instr(1, "and 1"), wrongCode},
		{instr(2, "const 1"), wrongCode},
		{instr(3, "oper 6"), wrongStack},
		{instr(1, "jump 4"), wrongStack},
		{guard(func(g *api.Guard) { g.Fields = 0 }), wrongMask},
		{guard(func(g *api.Guard) { g.Regs = 1 }), wrongMask},
		{guard(func(g *api.Guard) { g.When.To = 3 }), wrongForm},
		{func(x *api.Table) { x.States = nil }, wrongForm},
		{guard(func(g *api.Guard) { g.Rows = times(2, api.Row{Kind: api.DoHalt}) }), wrongForm},
	} {
		expectCheck(t, change(exampleT(), c.but), c.want)
	}
}

func TestExampleOfBytes(t *testing.T) {
	content := "\x01s" + "\x00" + "\x00" + "\x01\x02" + "\x04\x03\x01\x06\x04\x01\x00\x05\x02" + "\x01\x01\x04\x01\x06\x00\x00"
	if len(content) != 22 || framed(content)[:1] != "\x16" {
		t.Error("the example has 22 bytes")
	}
	expectBytes(t, exampleT(), framed(content))
}
