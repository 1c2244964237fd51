package lower_test

import (
	"math/big"
	"slices"
	"testing"

	"tripwire/api"
	"tripwire/cost"
	"tripwire/lower"
	"tripwire/tree"
)

// A model by the chapter's words: what is folded is reckoned with numbers without bounds, and typed by a table of its own; instructions are lists that are put together, whose jumps are reckoned from their lengths; names are looked for one by one.

// result is a value or a fault, as numbers without bounds have it.
type result struct {
	n  int64
	no api.Errno
}

func bounded(n *big.Int) result {
	if !n.IsInt64() {
		return result{no: over}
	}
	return result{n: n.Int64()}
}

func said(is bool) result {
	if is {
		return result{n: 1}
	}
	return result{}
}

// operOf is what chapter 17 says of an Oper that reckons all of its kids.
func operOf(o api.Oper, a, b int64) result {
	x, y := big.NewInt(a), big.NewInt(b)
	against := x.Cmp(y)
	switch o {
	case api.OperNot:
		return said(a == 0)
	case api.OperNeg:
		return bounded(x.Neg(x))
	case api.OperAbs:
		return bounded(x.Abs(x))
	case api.OperMin:
		return result{n: min(a, b)}
	case api.OperMax:
		return result{n: max(a, b)}
	case api.OperAdd:
		return bounded(x.Add(x, y))
	case api.OperSub:
		return bounded(x.Sub(x, y))
	case api.OperMul:
		return bounded(x.Mul(x, y))
	case api.OperDiv, api.OperMod:
		if b == 0 {
			return result{no: zero}
		}
		quotient, rest := x.QuoRem(x, y, new(big.Int))
		if o == api.OperDiv {
			return bounded(quotient)
		}
		return bounded(rest)
	}
	return said([]bool{against == 0, against != 0, against < 0, against <= 0, against > 0, against >= 0}[o-api.OperEq])
}

// modelType is the type of a node with literals below it, by chapter 15's table; 0: it has none.
func modelType(n api.Node) api.Type {
	a, b := n.Kids[0].Type, n.Kids[len(n.Kids)-1].Type
	numbers, alike := a <= tTime && b <= tTime, a == b
	switch o := n.Oper; {
	case o == api.OperNot && a == tBool, (o == api.OperEq || o == api.OperNe) && alike, o >= api.OperLt && o <= api.OperGe && alike && numbers:
		return tBool
	case o == api.OperNot || o >= api.OperEq || !numbers:
		return 0
	case n.Kind == api.NodeConv:
		return n.Type
	case o == api.OperMul && a == tInt:
		return b
	case (o == api.OperMul || o == api.OperDiv) && b == tInt:
		return a
	case o == api.OperMul && a != b && a != tTime && b != tTime, o == api.OperDiv && alike:
		return tInt
	case o != api.OperMul && alike:
		return a
	}
	return 0
}

func isBool(n api.Node, is int64) bool {
	return n.Kind == api.NodeLit && n.Type == tBool && n.N == is
}

// modelFold is an expression folded, all of whose nodes may be.
func modelFold(n api.Node) api.Node {
	var kids []api.Node
	literals := 0
	for _, kid := range n.Kids {
		kids = append(kids, modelFold(kid))
		if kids[len(kids)-1].Kind == api.NodeLit {
			literals++
		}
	}
	n.Kids = kids
	and, or, cond := n.Oper == api.OperAnd, n.Oper == api.OperOr, n.Kind == api.NodeCond
	switch {
	case and && isBool(kids[0], 0), or && isBool(kids[0], 1):
		return kids[0]
	case and && isBool(kids[0], 1), or && isBool(kids[0], 0), cond && isBool(kids[0], 1):
		return kids[1]
	case cond && isBool(kids[0], 0):
		return kids[2]
	case and, or, cond, len(kids) == 0, literals < len(kids):
		return n
	}
	to, r := modelType(n), result{n: kids[0].N}
	if to == 0 {
		return n
	}
	if n.Kind != api.NodeConv {
		r = operOf(n.Oper, kids[0].N, kids[len(kids)-1].N)
	}
	if r.no != api.OK || r.n < 0 {
		return n
	}
	return at(n.At, lit(to, r.n))
}

// modelCode is the instructions of a node, from a place on; consts grows.
func modelCode(s api.Strategy, n api.Node, from int, consts *[]int64) []api.Instr {
	one := func(k api.InstrKind, a int) []api.Instr { return []api.Instr{{Kind: k, A: a}} }
	switch n.Kind {
	case api.NodeLit:
		if !slices.Contains(*consts, n.N) {
			*consts = append(*consts, n.N)
		}
		return one(api.InstrConst, slices.Index(*consts, n.N))
	case api.NodeReg:
		return one(api.InstrReg, slices.IndexFunc(s.Regs, func(r api.Reg) bool { return r.Name == n.Name }))
	case api.NodeField:
		return one(api.InstrField, int(n.Field))
	case api.NodeHas:
		return one(api.InstrHas, int(n.Field))
	}
	first := modelCode(s, n.Kids[0], from, consts)
	behind := from + len(first)
	switch {
	case n.Kind == api.NodeConv:
		return first
	case n.Kind == api.NodeCond:
		second := modelCode(s, n.Kids[1], behind+1, consts)
		other := behind + 1 + len(second) + 1
		third := modelCode(s, n.Kids[2], other, consts)
		return slices.Concat(first, one(api.InstrElse, other), second, one(api.InstrJump, other+len(third)), third)
	case n.Oper == api.OperAnd || n.Oper == api.OperOr:
		second := modelCode(s, n.Kids[1], behind+1, consts)
		return slices.Concat(first, one(api.InstrAnd+api.InstrKind(n.Oper-api.OperAnd), behind+1+len(second)), second)
	case len(n.Kids) == 1:
		return slices.Concat(first, one(api.InstrOper, int(n.Oper)))
	}
	second := modelCode(s, n.Kids[1], behind, consts)
	return slices.Concat(first, second, one(api.InstrOper, int(n.Oper)))
}

// modelTable is the table of a strategy that may be, however much it has.
func modelTable(s api.Strategy) api.Table {
	x := api.Table{Name: s.Name, Slots: len(s.Slots)}
	for _, r := range s.Regs {
		if r.Init.Kind == api.NodeLit {
			x.Regs = append(x.Regs, r.Init.N)
		} else {
			x.Regs = append(x.Regs, -r.Init.Kids[0].N)
		}
	}
	laid := func(n api.Node) api.Span {
		if n.Kind == 0 {
			return api.Span{}
		}
		from := len(x.Code)
		x.Code = append(x.Code, modelCode(s, modelFold(n), from, &x.Consts)...)
		return span(from, len(x.Code))
	}
	for _, state := range s.States {
		var guards []api.Guard
		for _, r := range state.Rules {
			g := api.Guard{When: laid(r.When)}
			fields, names := tree.Reads(modelFold(r.When))
			g.Fields = fields
			for _, name := range names {
				g.Regs |= 1 << slices.IndexFunc(s.Regs, func(r api.Reg) bool { return r.Name == name })
			}
			for _, d := range r.Dos {
				g.Rows = append(g.Rows, api.Row{Kind: d.Kind, Order: d.Order, Index: modelIndex(s, d), Side: laid(d.Side), Qty: laid(d.Qty), Price: laid(d.Price), Value: laid(d.Value)})
			}
			guards = append(guards, g)
		}
		x.States = append(x.States, guards)
	}
	return x
}

func modelIndex(s api.Strategy, d api.Do) int {
	switch d.Kind {
	case api.DoSet:
		return slices.IndexFunc(s.Regs, func(r api.Reg) bool { return r.Name == d.Name })
	case api.DoGoto:
		return slices.IndexFunc(s.States, func(x api.State) bool { return x.Name == d.Name })
	case api.DoHalt:
		return 0
	}
	return 1 + slices.IndexFunc(s.Slots, func(x api.Slot) bool { return x.Name == d.Name })
}

// exprsOf are all expressions of a strategy's rules: what they ask, what their things have.
func exprsOf(s api.Strategy) []api.Node {
	var all []api.Node
	for _, x := range s.States {
		for _, r := range x.Rules {
			all = append(all, r.When)
			for _, d := range r.Dos {
				for _, n := range []api.Node{d.Side, d.Qty, d.Price, d.Value} {
					if n.Kind != 0 {
						all = append(all, n)
					}
				}
			}
		}
	}
	return all
}

// drawnStrategies are many, most of which fit, half of them with much that is known ahead.
func drawnStrategies(from uint64, count int) []api.Strategy {
	var all []api.Strategy
	for k := range count {
		d := drawer{below: draw(from + uint64(k)), slips: []int{0, 0, 0, 100}[k%4], known: k%2 == 0}
		s := d.strategy()
		if k%11 == 0 {
			s = d.strewn(s)
		}
		all = append(all, s)
	}
	return all
}

// fitting are drawn strategies that may be.
func fitting(from uint64, count int) []api.Strategy {
	var all []api.Strategy
	for _, s := range drawnStrategies(from, count) {
		if _, err := cost.Strategy(s); err == nil {
			all = append(all, s)
		}
	}
	return all
}

func TestDrawnTables(t *testing.T) {
	taken, refused := 0, 0
	kinds := map[api.InstrKind]int{}
	rows := map[api.DoKind]int{}
	for _, s := range drawnStrategies(100, 4000) {
		if _, err := cost.Strategy(s); err != nil {
			expectRefused(t, s, err)
			refused++
			continue
		}
		taken++
		x, want := tableOf(t, s), modelTable(s)
		if !sameTable(x, want) {
			t.Errorf("Strategy(%s) is %s; want %s", short(s), short(x), short(want))
		}
		for _, in := range x.Code {
			kinds[in.Kind]++
		}
		for _, g := range slices.Concat(x.States...) {
			for _, r := range g.Rows {
				rows[r.Kind]++
			}
		}
	}
	if taken < 2500 || refused < 300 || len(kinds) < 9 || len(rows) < 6 {
		t.Errorf("%d were taken, %d refused; instructions %v, rows %v", taken, refused, kinds, rows)
	}
}

func TestDrawnFolds(t *testing.T) {
	stayed, changed := 0, 0
	known := map[[2]int]int{}
	for k := range 6000 {
		d := drawer{below: draw(uint64(500000 + k)), regs: full().Regs, slips: []int{0, 10, 40}[k%3], known: k%4 > 0}
		n := numbered(d.expr(d.typed(), 1+d.below(40)))
		want := modelFold(n)
		expectFold(t, n, want)
		if sameNode(n, want) {
			stayed++
			continue
		}
		changed++
		known[[2]int{int(n.Kind), int(n.Oper)}]++
	}
	if stayed < 500 || changed < 2000 || len(known) < 20 {
		t.Errorf("%d stayed, %d changed: %v", stayed, changed, known)
	}
}

// Whatever is handed in is answered: trees with something strewn in, of which some may be.
func TestStrewnFolds(t *testing.T) {
	wrong := 0
	for k, s := range drawnStrategies(700000, 400) {
		d := drawer{below: draw(uint64(k))}
		for range 4 {
			for _, n := range exprsOf(d.strewn(s)) {
				if tree.CheckExpr(n) == api.OK {
					expectFold(t, n, modelFold(n))
					continue
				}
				wrong++
				if is := lower.Fold(n); !sameNode(is, n) {
					t.Errorf("Fold(%s) is %s", short(n), short(is))
				}
			}
		}
	}
	if wrong < 100 {
		t.Errorf("only %d may not be", wrong)
	}
}
