package table

import "tripwire/api"

// checker goes through the spans of a table that is well formed.
type checker struct {
	table api.Table
	// heights are how much lies on the stack ahead of each place, and 1 more; 0 is for places that are not come to.
	heights [api.MaxCode + 1]uint8
}

func (c *checker) check() api.Errno {
	for _, guards := range c.table.States {
		for _, g := range guards {
			if no := c.guard(g); no != api.OK {
				return no
			}
		}
	}
	return api.OK
}

func (c *checker) guard(g api.Guard) api.Errno {
	if no := c.span(g.When); no != api.OK {
		return no
	}
	if fields, regs := Reads(c.table, g.When); fields != g.Fields || regs != g.Regs {
		return api.ErrTableMask
	}
	for _, row := range g.Rows {
		for _, x := range has(row) {
			if no := c.span(x); no != api.OK {
				return no
			}
		}
	}
	return api.OK
}

func (c *checker) span(x api.Span) api.Errno {
	for at := x.From; at < x.To; at++ {
		if !c.stands(at, x.To) {
			return api.ErrTableCode
		}
	}
	if !c.fits(x) {
		return api.ErrTableStack
	}
	return api.OK
}

// stands tells whether an instruction may stand at its place, in a span up to to.
func (c *checker) stands(at, to int) bool {
	a := c.table.Code[at].A
	switch c.table.Code[at].Kind {
	case api.InstrConst:
		return within(0, a, len(c.table.Consts)-1)
	case api.InstrField:
		return within(int(api.FieldBid), a, int(api.FieldOpen))
	case api.InstrHas:
		return within(int(api.FieldBid), a, int(api.FieldLast))
	case api.InstrReg:
		return within(0, a, len(c.table.Regs)-1)
	case api.InstrOper:
		return within(int(api.OperNeg), a, int(api.OperGe))
	case api.InstrAnd, api.InstrOr, api.InstrElse, api.InstrJump:
		return within(at+1, a, to)
	}
	return false
}

// fits tells whether a span's heights do. As jumps go forth alone, whoever comes to a place has come there once all places ahead of it are done.
func (c *checker) fits(x api.Span) bool {
	// Nothing lies there, whatever the span ahead of this one has left at its To.
	c.heights[x.From] = 1
	for at := x.From; at < x.To; at++ {
		if c.heights[at] == 0 || !c.goOn(at, int(c.heights[at])-1) {
			return false
		}
	}
	return c.heights[x.To] == 1+1
}

// come lays the height with which one comes to a place, and tells whether it can be that.
func (c *checker) come(at, height int) bool {
	if !within(0, height, api.MaxStack) {
		return false
	}
	was, is := c.heights[at], uint8(height+1)
	c.heights[at] = is
	return was == 0 || was == is
}

// goOn comes to all places to which one comes on from a place; of a jump that takes one off where nothing lies, the next place can't be come to.
func (c *checker) goOn(at, height int) bool {
	in := c.table.Code[at]
	switch in.Kind {
	case api.InstrOper:
		if api.Oper(in.A) <= api.OperAbs {
			return height >= 1 && c.come(at+1, height)
		}
		return height >= 2 && c.come(at+1, height-1)
	case api.InstrAnd, api.InstrOr:
		return c.come(in.A, height) && c.come(at+1, height-1)
	case api.InstrElse:
		return c.come(in.A, height-1) && c.come(at+1, height-1)
	case api.InstrJump:
		return c.come(in.A, height)
	}
	return c.come(at+1, height+1)
}
