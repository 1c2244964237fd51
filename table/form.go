package table

import (
	"tripwire/api"
	"tripwire/lex"
)

// spans are those of a row, in the order in which their instructions stand.
type spans [4]api.Span

func spansOf(x api.Row) spans { return spans{x.Side, x.Qty, x.Price, x.Value} }

// parts tells which of a row's spans it has.
type parts [4]bool

func partsOf(k api.DoKind, order api.Kind) parts {
	switch k {
	case api.DoSubmit:
		return parts{true, true, order != api.Market, false}
	case api.DoAmend:
		return parts{false, true, true, false}
	case api.DoSet:
		return parts{false, false, false, true}
	}
	return parts{}
}

// has are the spans that a row has; the others of a row that may be are noughts.
func has(x api.Row) []api.Span {
	var l []api.Span
	is := partsOf(x.Kind, x.Order)
	for i, s := range spansOf(x) {
		if is[i] {
			l = append(l, s)
		}
	}
	return l
}

func within(least, n, most int) bool { return least <= n && n <= most }

func wellFormed(t api.Table) bool {
	if !lex.Name(t.Name) || !sizesFit(t) {
		return false
	}
	at := 0
	for _, guards := range t.States {
		if len(guards) > api.MaxRules {
			return false
		}
		for _, g := range guards {
			if !rowsFit(t, g.Rows) || !lies(g, &at) {
				return false
			}
		}
	}
	return at == len(t.Code)
}

// sizesFit tells whether there are no more than may be of what a table has beside its guards.
func sizesFit(t api.Table) bool {
	return len(t.Regs) <= api.MaxRegs && within(0, t.Slots, api.MaxSlots) && len(t.Consts) <= api.MaxConsts &&
		len(t.Code) <= api.MaxCode && within(1, len(t.States), api.MaxStates)
}

func rowsFit(t api.Table, rows []api.Row) bool {
	if !within(1, len(rows), api.MaxDos) {
		return false
	}
	for i, x := range rows {
		if !rowFits(t, x) || i < len(rows)-1 && ends(x.Kind) {
			return false
		}
	}
	return true
}

// ends tells whether nothing is done behind a row of that kind.
func ends(k api.DoKind) bool { return k == api.DoGoto || k == api.DoHalt }

func rowFits(t api.Table, x api.Row) bool {
	least, most := indexes(t, x.Kind)
	if !orderFits(x) || !within(least, x.Index, most) {
		return false
	}
	is := partsOf(x.Kind, x.Order)
	for i, s := range spansOf(x) {
		if !is[i] && s != (api.Span{}) {
			return false
		}
	}
	return true
}

func orderFits(x api.Row) bool {
	if x.Kind == api.DoSubmit {
		return api.Limit <= x.Order && x.Order <= api.Post
	}
	return x.Order == 0
}

// indexes are the least and the greatest Index of a kind of row; of what is no kind no number is between them.
func indexes(t api.Table, k api.DoKind) (least, most int) {
	switch k {
	case api.DoSubmit:
		return 0, t.Slots
	case api.DoAmend, api.DoCancel:
		return 1, t.Slots
	case api.DoSet:
		return 0, len(t.Regs) - 1
	case api.DoGoto:
		return 0, len(t.States) - 1
	case api.DoHalt:
		return 0, 0
	}
	return 0, -1
}

// lies tells whether a guard's spans lie one behind the other from a place on, which then is the one behind them.
func lies(g api.Guard, at *int) bool {
	all := []api.Span{g.When}
	for _, x := range g.Rows {
		all = append(all, has(x)...)
	}
	for _, x := range all {
		if x.From != *at || x.To <= x.From {
			return false
		}
		*at = x.To
	}
	return true
}
