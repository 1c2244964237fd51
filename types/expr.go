package types

import "tripwire/api"

// registers are the types of registers, by their names.
type registers map[string]api.Type

// registersOf keeps of registers with one name the first: it is the one for which the name stands.
func registersOf(s api.Strategy) registers {
	g := registers{}
	for _, r := range s.Regs {
		if _, is := g[r.Name]; !is {
			g[r.Name] = r.Type
		}
	}
	return g
}

// untyped is what Of says of an expression that has no type.
func untyped(at int, no api.Errno) error {
	return &api.Failure{Call: callOf, At: at, Err: no}
}

// typeOf is the type of an expression that may be; what is wrong below its kids is told ahead of what is wrong with itself.
func (g registers) typeOf(n api.Node) (api.Type, error) {
	var kids [3]api.Type
	for i, kid := range n.Kids {
		t, err := g.typeOf(kid)
		if err != nil {
			return 0, err
		}
		kids[i] = t
	}
	if n.Kind == api.NodeReg {
		t, is := g[n.Name]
		if !is {
			return 0, untyped(n.At, api.ErrTypesNone)
		}
		return t, nil
	}
	t, fits := fitted(n, kids)
	if !fits {
		return 0, untyped(n.At, api.ErrTypesFit)
	}
	return t, nil
}

// fitted is the type of a node that is no register's name, and whether its kids' types are as they must be.
func fitted(n api.Node, kids [3]api.Type) (api.Type, bool) {
	a, b, c := kids[0], kids[1], kids[2]
	switch n.Kind {
	case api.NodeLit:
		return n.Type, true
	case api.NodeField:
		return fieldTypes[n.Field], true
	case api.NodeHas:
		return api.TypeBool, true
	case api.NodeCond:
		return b, a == api.TypeBool && b == c
	case api.NodeConv:
		return n.Type, isNumber(a)
	}
	if len(n.Kids) == 1 {
		return alone(n.Oper, a)
	}
	return paired(n.Oper, a, b)
}

var fieldTypes = [...]api.Type{
	api.FieldBid: api.TypePrice, api.FieldAsk: api.TypePrice, api.FieldLast: api.TypePrice,
	api.FieldVolume: api.TypeQty, api.FieldOpen: api.TypeQty,
	api.FieldNow: api.TypeTime,
}

// alone is the type of an operator's node with one kid.
func alone(o api.Oper, a api.Type) (api.Type, bool) {
	if o == api.OperNot {
		return a, a == api.TypeBool
	}
	return a, isNumber(a)
}

// paired is the type of an operator's node with two kids.
func paired(o api.Oper, a, b api.Type) (api.Type, bool) {
	switch o {
	case api.OperMul:
		return product(a, b)
	case api.OperDiv:
		return quotient(a, b)
	case api.OperAnd, api.OperOr:
		return api.TypeBool, a == api.TypeBool && b == api.TypeBool
	case api.OperLt, api.OperLe, api.OperGt, api.OperGe:
		// Only numbers have an order; else all is asked as of == and !=.
		if !isNumber(a) {
			return 0, false
		}
		fallthrough
	case api.OperEq, api.OperNe:
		return api.TypeBool, a == b
	}
	return a, isNumber(a) && a == b
}

func product(a, b api.Type) (api.Type, bool) {
	switch {
	case a == api.TypeInt:
		return b, isNumber(b)
	case b == api.TypeInt:
		return a, isNumber(a)
	}
	worth := a == api.TypePrice && b == api.TypeQty || a == api.TypeQty && b == api.TypePrice
	return api.TypeInt, worth
}

func quotient(a, b api.Type) (api.Type, bool) {
	if b == api.TypeInt {
		return a, isNumber(a)
	}
	return api.TypeInt, isNumber(a) && a == b
}

// isNumber is asked of types that may be any: a register's need not be one.
func isNumber(t api.Type) bool {
	return t >= api.TypeInt && t <= api.TypeTime
}
