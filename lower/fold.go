package lower

import (
	"tripwire/api"
	"tripwire/mean"
	"tripwire/types"
)

// isTrue is what the literal true has; the literal false has 0.
const isTrue = 1

// each is a list of what is made of each of a list's things, in order.
func each[A, B any](things []A, made func(A) B) []B {
	if len(things) == 0 {
		// As nodes without kids mostly have it: so one that stays is the same to the last bit.
		return nil
	}
	all := make([]B, len(things))
	for i, x := range things {
		all[i] = made(x)
	}
	return all
}

// copied is the same expression in memory of its own.
func copied(n api.Node) api.Node {
	n.Kids = each(n.Kids, copied)
	return n
}

// folded is an expression whose nodes may all be, with what is known ahead reckoned.
func folded(n api.Node) api.Node {
	n.Kids = each(n.Kids, folded)
	switch n.Kind {
	case api.NodeCond:
		return chosen(n, 1, 2)
	case api.NodeUnary, api.NodeBinary, api.NodeCall, api.NodeConv:
		return reckoned(n)
	}
	return n
}

// chosen is the kid that a node comes to, if its first one is a literal true, or false; else the node.
func chosen(n api.Node, ifTrue, ifFalse int) api.Node {
	first := n.Kids[0]
	switch {
	case first.Kind != api.NodeLit || first.Type != api.TypeBool:
		return n
	case first.N == isTrue:
		return n.Kids[ifTrue]
	}
	return n.Kids[ifFalse]
}

// reckoned is what an operator, a function or a conversion comes to, if that is known; else the node.
func reckoned(n api.Node) api.Node {
	switch n.Oper {
	case api.OperAnd:
		return chosen(n, 1, 0)
	case api.OperOr:
		return chosen(n, 0, 1)
	}
	for _, kid := range n.Kids {
		if kid.Kind != api.NodeLit {
			return n
		}
	}
	return asLiteral(n)
}

// asLiteral is the literal in whose place a node with literals below it can stand; the node, if there is none.
func asLiteral(n api.Node) api.Node {
	// Literals come to the same in every strategy, with every mode and snapshot: the plainest ones will do.
	plain := api.Strategy{Name: "s", States: []api.State{{Name: "s"}}}
	to, err := types.Of(plain, n)
	if err != nil {
		return n
	}
	is, no := mean.Value(plain, n, api.Mode{}, api.Snap{})
	if no != api.OK || is < 0 {
		// A fault is met where it stands, when it is reached; below 0 there are no literals.
		return n
	}
	return api.Node{Kind: api.NodeLit, Type: to, N: is, At: n.At}
}
