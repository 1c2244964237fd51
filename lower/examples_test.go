package lower_test

import (
	"testing"

	"tripwire/api"
	"tripwire/lower"
)

const exampleText = "strategy s { reg n int = -2; slot o; state a { when has bid && n < 3 do submit buy of 2q at bid limit as o, set n = n + 1, goto b; } state b {} }"

func TestExamplesOfFold(t *testing.T) {
	for text, want := range map[string]string{
		"1 + 2 * 3": "7", "2 - 3": "2 - 3", "1 / 0": "1 / 0", "-(2 - 3)": "-(2 - 3)",
		"true && bid > 1p + 1p": "bid > 2p", "bid > 1p && false": "bid > 1p && false", "1 > 2 && 1 / 0 > 1": "false",
		"1 < 2 ? n : 1 / 0": "n", "price(3) + 1p": "4p",
	} {
		expectFolds(t, text, want)
	}
}

func TestTheExampleOfATable(t *testing.T) {
	want := api.Table{
		Name:   "s",
		Regs:   []int64{-2},
		Slots:  1,
		Consts: []int64{3, 1, 2},
		Code:   code("has 1, and 5, reg 0, const 0, oper 13, const 1, const 2, field 1, reg 0, const 1, oper 6"),
		States: [][]api.Guard{{{
			When: span(0, 5), Fields: 2, Regs: 1,
			Rows: []api.Row{
				{Kind: api.DoSubmit, Order: api.Limit, Index: 1, Side: span(5, 6), Qty: span(6, 7), Price: span(7, 8)},
				{Kind: api.DoSet, Index: 0, Value: span(8, 11)},
				{Kind: api.DoGoto, Index: 1},
			},
		}}, {}},
	}
	if x := tableOf(t, strategy(t, exampleText)); !sameTable(x, want) {
		t.Errorf("%+v; want %+v", x, want)
	}
	x, most, err := lower.Source(exampleText)
	if !sameTable(x, want) || most != (api.Cost{Steps: 11, Acts: 1}) || err != nil {
		t.Errorf("%+v, %v, %s; want %+v", x, most, told(err), want)
	}
}

// Those of DOC.md, as tables.
func TestExamplesOfTheDocument(t *testing.T) {
	for text, want := range map[string]struct {
		code   string
		consts []int64
		fields api.Mask
		regs   uint16
	}{
		"strategy s { reg n int = 0; slot o; state a { when has ask && n < 1 do submit buy of 2q at ask limit as o, set n = n + 1; } }": {
			"has 2, and 5, reg 0, const 0, oper 13, const 0, const 1, field 2, reg 0, const 0, oper 6", []int64{1, 2}, 1 << api.FieldAsk, 1},
		"strategy s { state a { when bid > 3p do halt; } }":                                   {"field 1, const 0, oper 15", []int64{3}, 1 << api.FieldBid, 0},
		"strategy s { state a { when has bid && bid > 3p do halt; } }":                        {"has 1, and 5, field 1, const 0, oper 15", []int64{3}, 1 << api.FieldBid, 0},
		"strategy s { reg n int = 0; state a { when 10 / n > 3 || has bid do halt; } }":       {"const 0, reg 0, oper 9, const 1, oper 15, or 7, has 1", []int64{10, 3}, 1 << api.FieldBid, 1},
		"strategy s { reg n int = 0; state a { when has bid || 10 / n > 3 do halt; } }":       {"has 1, or 7, const 0, reg 0, oper 9, const 1, oper 15", []int64{10, 3}, 1 << api.FieldBid, 1},
		"strategy s { state a { when has ask do submit buy of 1q at ask ioc; } }":             {"has 2, const 0, const 0, field 2", []int64{1}, 1 << api.FieldAsk, 0},
		"strategy s { reg n int = 0; slot o; state a { when true do cancel o, set n = 1; } }": {"const 0, const 0", []int64{1}, 0, 0},
	} {
		x, _, err := lower.Source(text)
		if err != nil {
			t.Fatal(text, told(err))
		}
		expectCode(t, x, want.code, want.consts...)
		if g := x.States[0][0]; g.Fields != want.fields || g.Regs != want.regs {
			t.Errorf("%q reads %d, %d; want %d, %d", text, g.Fields, g.Regs, want.fields, want.regs)
		}
	}
}
