package lower

import "tripwire/api"

// layer lays the instructions of a strategy's expressions, one behind the other.
type layer struct {
	code    []api.Instr
	consts  []int64
	numbers map[int64]int  // where they stand in consts
	regs    map[string]int // which ones they are, by their names: from 0 on
	slots   map[string]int // likewise: from 1 on
	states  map[string]int // likewise: from 0 on
}

// places tells which of a list each of its things is, by its name, from a number on.
func places[T any](things []T, from int, name func(T) string) map[string]int {
	which := map[string]int{}
	for i, x := range things {
		which[name(x)] = from + i
	}
	return which
}

func begin(s api.Strategy) *layer {
	return &layer{
		numbers: map[int64]int{},
		regs:    places(s.Regs, 0, func(r api.Reg) string { return r.Name }),
		slots:   places(s.Slots, 1, func(x api.Slot) string { return x.Name }),
		states:  places(s.States, 0, func(x api.State) string { return x.Name }),
	}
}

// here is the place that is laid next.
func (l *layer) here() int { return len(l.code) }

func (l *layer) lay(k api.InstrKind, a int) { l.code = append(l.code, api.Instr{Kind: k, A: a}) }

// jump lays one that goes on to a place which is not known yet; land tells it that this place is here.
func (l *layer) jump(k api.InstrKind) (land func()) {
	at := l.here()
	l.lay(k, 0)
	return func() { l.code[at].A = l.here() }
}

// expr lays an expression, and tells where it stands; of what is none it lays nothing, and tells noughts.
func (l *layer) expr(n api.Node) api.Span {
	if n.Kind == 0 {
		return api.Span{}
	}
	from := l.here()
	l.node(Fold(n))
	return api.Span{From: from, To: l.here()}
}

func (l *layer) node(n api.Node) { l.way(n)(n) }

// way is how a node's instructions are laid.
func (l *layer) way(n api.Node) func(n api.Node) {
	switch n.Kind {
	case api.NodeLit:
		return l.constant
	case api.NodeReg:
		return l.register
	case api.NodeField:
		return l.field
	case api.NodeHas:
		return l.has
	case api.NodeConv:
		return l.kids
	case api.NodeCond:
		return l.cond
	}
	switch n.Oper {
	case api.OperAnd:
		return l.and
	case api.OperOr:
		return l.or
	}
	return l.oper
}

func (l *layer) constant(n api.Node) {
	which, known := l.numbers[n.N]
	if !known {
		which = len(l.consts)
		l.numbers[n.N] = which
		l.consts = append(l.consts, n.N)
	}
	l.lay(api.InstrConst, which)
}

func (l *layer) register(n api.Node) { l.lay(api.InstrReg, l.regs[n.Name]) }

func (l *layer) field(n api.Node) { l.lay(api.InstrField, int(n.Field)) }

func (l *layer) has(n api.Node) { l.lay(api.InstrHas, int(n.Field)) }

func (l *layer) kids(n api.Node) {
	for _, kid := range n.Kids {
		l.node(kid)
	}
}

func (l *layer) oper(n api.Node) {
	l.kids(n)
	l.lay(api.InstrOper, int(n.Oper))
}

func (l *layer) and(n api.Node) { l.either(api.InstrAnd, n.Kids) }

func (l *layer) or(n api.Node) { l.either(api.InstrOr, n.Kids) }

// either lays two kids, of which the second one is passed over where the first one decides.
func (l *layer) either(k api.InstrKind, kids []api.Node) {
	l.node(kids[0])
	land := l.jump(k)
	l.node(kids[1])
	land()
}

func (l *layer) cond(n api.Node) {
	l.node(n.Kids[0])
	otherwise := l.jump(api.InstrElse)
	l.node(n.Kids[1])
	land := l.jump(api.InstrJump)
	otherwise()
	l.node(n.Kids[2])
	land()
}
