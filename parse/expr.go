package parse

import "tripwire/api"

// How many operators of a level stand side by side: any number, for no text has so many, or one.
const (
	many = api.MaxSource
	once = 1
)

func (r *reader) expr() api.Node {
	n := r.or()
	if !r.is("?") {
		return n
	}
	at := r.open().At
	yes := r.within(r.expr)
	r.take(":")
	no := r.within(r.expr)
	return api.Node{Kind: api.NodeCond, Kids: []api.Node{n, yes, no}, At: at}
}

// Each level is a row of parts of the next one, which binds more tightly, with its own operators between them.

func (r *reader) or() api.Node { return r.row(r.orOper, r.and, many) }

func (r *reader) and() api.Node { return r.row(r.andOper, r.compare, many) }

func (r *reader) compare() api.Node { return r.row(r.compareOper, r.sum, once) }

func (r *reader) sum() api.Node { return r.row(r.sumOper, r.product, many) }

func (r *reader) product() api.Node { return r.row(r.productOper, r.unary, many) }

// row reads parts, and as many operators between them as may be; oper tells which one of the level is at hand (0: none).
func (r *reader) row(oper func() api.Oper, part func() api.Node, most int) api.Node {
	n := part()
	for range most {
		o := oper()
		if o == 0 {
			break
		}
		at := r.step().At
		next := part()
		n = api.Node{Kind: api.NodeBinary, Oper: o, Kids: []api.Node{n, next}, At: at}
	}
	return n
}

func (r *reader) unary() api.Node {
	o := r.unaryOper()
	if o == 0 {
		return r.one()
	}
	at := r.open().At
	kid := r.within(r.unary)
	return api.Node{Kind: api.NodeUnary, Oper: o, Kids: []api.Node{kid}, At: at}
}

func (r *reader) one() api.Node {
	x := r.look()
	switch {
	case x.Text == "(":
		r.open()
		return r.inBrackets()
	case x.Text == "has":
		return r.has()
	case callOf(x) != 0:
		return r.call()
	case isNumber(typeOf(x)):
		return r.conv()
	case fieldOf(x) != 0:
		r.step()
		return api.Node{Kind: api.NodeField, Field: fieldOf(x), At: x.At}
	case x.Kind == api.TokenName:
		r.step()
		return api.Node{Kind: api.NodeReg, Name: x.Text, At: x.At}
	}
	return r.literal()
}

// inBrackets reads an expression, and the bracket behind it.
func (r *reader) inBrackets() api.Node {
	n := r.within(r.expr)
	r.take(")")
	return n
}

func (r *reader) has() api.Node {
	at := r.step().At
	f := fieldOf(r.look())
	r.need(mayLack(f), api.ErrParseToken)
	r.step()
	return api.Node{Kind: api.NodeHas, Field: f, At: at}
}

func (r *reader) call() api.Node {
	x := r.open()
	n := api.Node{Kind: api.NodeCall, Oper: callOf(x), At: x.At}
	r.take("(")
	if n.Oper != api.OperAbs {
		n.Kids = append(n.Kids, r.within(r.expr))
		r.take(",")
	}
	n.Kids = append(n.Kids, r.inBrackets())
	return n
}

func (r *reader) conv() api.Node {
	x := r.open()
	r.take("(")
	kid := r.inBrackets()
	return api.Node{Kind: api.NodeConv, Type: typeOf(x), Kids: []api.Node{kid}, At: x.At}
}

func (r *reader) literal() api.Node {
	x := r.look()
	t, n := valueOf(x)
	r.need(t != 0, api.ErrParseToken)
	r.step()
	return api.Node{Kind: api.NodeLit, Type: t, N: n, At: x.At}
}
