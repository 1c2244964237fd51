package print

import (
	"slices"
	"strconv"

	"tripwire/api"
)

// The levels that kids' places ask for, from the loosest on.
const (
	levelCond    = 1
	levelOr      = 2
	levelAnd     = 3
	levelCompare = 4
	levelSum     = 5
	levelProduct = 6
	levelUnary   = 7
)

// node lays an expression that may be. Of a text that is too long already nothing is told: the rest of a tree, however great, is left out.
func (w *writer) node(n api.Node) {
	if w.long() {
		return
	}
	lay := w.layOf(n.Kind)
	lay(n)
}

// layOf is how a node of a kind is laid.
func (w *writer) layOf(k api.NodeKind) func(api.Node) {
	switch k {
	case api.NodeLit:
		return w.literal
	case api.NodeReg:
		return w.register
	case api.NodeField:
		return w.field
	case api.NodeHas:
		return w.has
	case api.NodeUnary:
		return w.unary
	case api.NodeBinary:
		return w.binary
	case api.NodeCond:
		return w.cond
	case api.NodeCall:
		return w.call
	}
	return w.conv
}

func (w *writer) literal(n api.Node) {
	switch n.Type {
	case api.TypeBool:
		w.put(boolWords[n.N])
	case api.TypeSide:
		w.put(sideWords[n.N])
	default:
		w.put(strconv.FormatInt(n.N, 10))
		w.put(typeLetters[n.Type])
	}
}

func (w *writer) register(n api.Node) {
	w.put(n.Name)
}

func (w *writer) field(n api.Node) {
	w.put(fieldWords[n.Field])
}

func (w *writer) has(n api.Node) {
	w.row(w.blank, w.word("has"), w.word(fieldWords[n.Field]))
}

func (w *writer) unary(n api.Node) {
	w.put(operTexts[n.Oper])
	w.place(levelUnary, n.Kids[0])
}

func (w *writer) binary(n api.Node) {
	first, second := placesOf(n.Oper)
	w.row(w.blank, w.kid(first, n.Kids[0]), w.word(operTexts[n.Oper]), w.kid(second, n.Kids[1]))
}

func (w *writer) cond(n api.Node) {
	w.row(w.blank, w.kid(levelOr, n.Kids[0]), w.word("?"), w.kid(levelCond, n.Kids[1]), w.word(":"), w.kid(levelCond, n.Kids[2]))
}

func (w *writer) call(n api.Node) {
	w.applied(operTexts[n.Oper], n.Kids)
}

func (w *writer) conv(n api.Node) {
	w.applied(typeWords[n.Type], n.Kids)
}

// applied lays a word, and in brackets behind it what it is asked of.
func (w *writer) applied(word string, kids []api.Node) {
	var parts []func()
	for _, kid := range kids {
		parts = append(parts, w.kid(levelCond, kid))
	}
	w.put(word)
	w.put("(")
	w.row(w.comma, parts...)
	w.put(")")
}

// expr is a part that is an expression by itself.
func (w *writer) expr(n api.Node) func() {
	return w.kid(levelCond, n)
}

// kid is a part that is a kid at a place that asks for a level.
func (w *writer) kid(asked int, n api.Node) func() {
	return func() { w.place(asked, n) }
}

// place lays a kid, in brackets if it must stand so.
func (w *writer) place(asked int, n api.Node) {
	if !isLooser(n, asked) {
		w.node(n)
		return
	}
	w.put("(")
	w.node(n)
	w.put(")")
}

// placesOf is the levels that both kids of an operator between them are asked for.
func placesOf(o api.Oper) (first, second int) {
	switch o {
	case api.OperOr:
		return levelOr, levelAnd
	case api.OperAnd:
		return levelAnd, levelCompare
	case api.OperAdd, api.OperSub:
		return levelSum, levelProduct
	case api.OperMul, api.OperDiv, api.OperMod:
		return levelProduct, levelUnary
	}
	return levelSum, levelSum
}

// isLooser tells whether a node binds less tightly than its place asks: what does at one place does at each that asks for more.
// (tree.Level looks through all that is below a node, which would be gone through anew for each of its kids.)
func isLooser(n api.Node, asked int) bool {
	switch asked {
	case levelUnary:
		if isOneOf(n.Oper, api.OperMul, api.OperDiv, api.OperMod) {
			return true
		}
		fallthrough
	case levelProduct:
		if isOneOf(n.Oper, api.OperAdd, api.OperSub) {
			return true
		}
		fallthrough
	case levelSum:
		if isOneOf(n.Oper, api.OperEq, api.OperNe, api.OperLt, api.OperLe, api.OperGt, api.OperGe) {
			return true
		}
		fallthrough
	case levelCompare:
		if n.Oper == api.OperAnd {
			return true
		}
		fallthrough
	case levelAnd:
		if n.Oper == api.OperOr {
			return true
		}
		fallthrough
	case levelOr:
		return n.Kind == api.NodeCond
	}
	return false
}

func isOneOf(o api.Oper, all ...api.Oper) bool {
	return slices.Contains(all, o)
}
