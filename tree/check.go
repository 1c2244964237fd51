package tree

import (
	"tripwire/api"
	"tripwire/lex"
)

// The levels of nodes, from the loosest on.
const (
	levelCond    = 1
	levelOr      = 2
	levelAnd     = 3
	levelCompare = 4
	levelSum     = 5
	levelProduct = 6
	levelUnary   = 7
	levelOne     = 8
)

// found is what is wrong by a look that gives up at the first that is, OK if it does not give up.
func found(look func()) (no api.Errno) {
	defer func() {
		no, _ = recover().(api.Errno)
	}()
	look()
	return api.OK
}

// need gives up the whole look, if a part is not as it must be.
func need(is bool, no api.Errno) {
	if !is {
		panic(no)
	}
}

func needStrategy(s api.Strategy) {
	needName(s.Name)
	needCount(len(s.Regs), 0, api.MaxRegs)
	for _, r := range s.Regs {
		needReg(r)
	}
	needCount(len(s.Slots), 0, api.MaxSlots)
	for _, x := range s.Slots {
		needName(x.Name)
	}
	needCount(len(s.States), 1, api.MaxStates)
	for _, x := range s.States {
		needState(x)
	}
}

func needReg(r api.Reg) {
	needName(r.Name)
	need(within(r.Type, api.TypeInt, api.TypeSide), api.ErrTreeForm)
	needInit(r.Init)
}

// needInit asks for a literal, or a number below a minus: whatever goes deeper has not its form.
func needInit(n api.Node) {
	needForm(n)
	if n.Kind == api.NodeUnary && n.Oper == api.OperNeg {
		n = n.Kids[0]
		need(isNumber(n.Type), api.ErrTreeForm)
	}
	need(n.Kind == api.NodeLit, api.ErrTreeForm)
}

func needState(s api.State) {
	needName(s.Name)
	needCount(len(s.Rules), 0, api.MaxRules)
	for _, r := range s.Rules {
		needRule(r)
	}
}

func needRule(r api.Rule) {
	needExpr(r.When)
	needCount(len(r.Dos), 1, api.MaxDos)
	for _, d := range r.Dos {
		needDo(d)
	}
}

func needDo(d api.Do) {
	need(within(d.Kind, api.DoSubmit, api.DoHalt), api.ErrTreeForm)
	has := namedBy(d)
	if has.order {
		need(within(d.Order, api.Limit, api.Post), api.ErrTreeForm)
	} else {
		need(d.Order == 0, api.ErrTreeForm)
	}
	if has.name {
		needName(d.Name)
	} else {
		need(d.Name == "", api.ErrTreeForm)
	}
	needPart(d.Side, has.side)
	needPart(d.Qty, has.qty)
	needPart(d.Price, has.price)
	needPart(d.Value, has.value)
}

// named tells which fields something done has.
type named struct{ order, name, side, qty, price, value bool }

func namedBy(d api.Do) named {
	switch d.Kind {
	case api.DoSubmit:
		return named{order: true, name: d.Name != "", side: true, qty: true, price: d.Order != api.Market}
	case api.DoAmend:
		return named{name: true, qty: true, price: true}
	case api.DoSet:
		return named{name: true, value: true}
	case api.DoCancel, api.DoGoto:
		return named{name: true}
	}
	return named{}
}

// needPart asks for an expression, or, where none is named, for noughts.
func needPart(n api.Node, is bool) {
	if is {
		needExpr(n)
		return
	}
	need(SameExpr(n, api.Node{}), api.ErrTreeForm)
}

func needName(s string) {
	need(lex.Name(s), api.ErrTreeForm)
}

func needCount(n, least, most int) {
	need(n >= least, api.ErrTreeForm)
	need(n <= most, api.ErrTreeMany)
}

// needExpr asks for the form of all nodes ahead of the depth, which only what has its form has.
func needExpr(n api.Node) {
	needForm(n)
	need(depth(n) <= api.MaxNest, api.ErrTreeNest)
}

func hasForm(n api.Node) bool {
	return found(func() { needForm(n) }) == api.OK
}

func needForm(n api.Node) {
	x := selfOf(n)
	need(x == x.named() && x.fits(len(n.Kids)), api.ErrTreeForm)
	for _, kid := range n.Kids {
		needForm(kid)
	}
}

// named is the same with nothing but the fields that its kind names.
func (x self) named() self {
	out := self{kind: x.kind}
	switch x.kind {
	case api.NodeLit:
		out.n = x.n
		fallthrough
	case api.NodeConv:
		out.typed = x.typed
	case api.NodeReg:
		out.name = x.name
	case api.NodeField, api.NodeHas:
		out.field = x.field
	case api.NodeUnary, api.NodeBinary, api.NodeCall:
		out.oper = x.oper
	}
	return out
}

// fits tells whether the fields that its kind names are as they may be, with so many kids.
func (x self) fits(kids int) bool {
	switch x.kind {
	case api.NodeLit:
		return kids == 0 && isLiteral(x.typed, x.n)
	case api.NodeReg:
		return kids == 0 && lex.Name(x.name)
	case api.NodeField:
		return kids == 0 && within(x.field, api.FieldBid, api.FieldOpen)
	case api.NodeHas:
		return kids == 0 && within(x.field, api.FieldBid, api.FieldLast)
	case api.NodeUnary:
		return kids == 1 && within(x.oper, api.OperNeg, api.OperNot)
	case api.NodeBinary:
		return kids == 2 && within(x.oper, api.OperAdd, api.OperOr)
	case api.NodeCond:
		return kids == 3
	case api.NodeCall:
		return kids == 1 && x.oper == api.OperAbs || kids == 2 && within(x.oper, api.OperMin, api.OperMax)
	case api.NodeConv:
		return kids == 1 && isNumber(x.typed)
	}
	return false
}

func isLiteral(t api.Type, n int64) bool {
	switch t {
	case api.TypeBool:
		return within(n, 0, 1)
	case api.TypeSide:
		return within(n, int64(api.Buy), int64(api.Sell))
	}
	return isNumber(t) && n >= 0
}

func isNumber(t api.Type) bool {
	return within(t, api.TypeInt, api.TypeTime)
}

func within[T ~uint8 | ~int64](x, least, greatest T) bool {
	return x >= least && x <= greatest
}

// depth is that of an expression whose nodes have their form.
func depth(n api.Node) int {
	deepest := 0
	for i, kid := range n.Kids {
		d := depth(kid)
		if level(kid) < asked(n, i) {
			d++
		}
		if goesDown(n, i) {
			d++
		}
		deepest = max(deepest, d)
	}
	return deepest
}

// goesDown tells whether a node's kid is deeper for being there, in brackets or not.
func goesDown(n api.Node, kid int) bool {
	switch n.Kind {
	case api.NodeBinary:
		return false
	case api.NodeCond:
		return kid > 0
	}
	return true
}

// asked is the level that a kid's place asks for.
func asked(n api.Node, kid int) int {
	switch n.Kind {
	case api.NodeCond:
		if kid == 0 {
			return levelOr
		}
	case api.NodeBinary:
		if level(n) == levelCompare {
			return levelSum
		}
		return level(n) + kid
	case api.NodeUnary:
		return levelUnary
	}
	return levelCond
}

func level(n api.Node) int {
	switch n.Kind {
	case api.NodeCond:
		return levelCond
	case api.NodeBinary:
		return levelOf(n.Oper)
	case api.NodeUnary:
		return levelUnary
	}
	return levelOne
}

// levelOf is the level of an operator between two kids.
func levelOf(o api.Oper) int {
	switch o {
	case api.OperOr:
		return levelOr
	case api.OperAnd:
		return levelAnd
	case api.OperAdd, api.OperSub:
		return levelSum
	case api.OperMul, api.OperDiv, api.OperMod:
		return levelProduct
	}
	return levelCompare
}
