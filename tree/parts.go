package tree

import (
	"slices"

	"tripwire/api"
)

// self is what a node says itself, without its kids and its place: of two nodes it can be compared.
type self struct {
	kind  api.NodeKind
	oper  api.Oper
	typed api.Type
	n     int64
	field api.Field
	name  string
}

func selfOf(n api.Node) self {
	return self{n.Kind, n.Oper, n.Type, n.N, n.Field, n.Name}
}

// each is a new list, turned part by part.
func each[T any](l []T, turn func(T) T) []T {
	var out []T
	for _, x := range l {
		out = append(out, turn(x))
	}
	return out
}

func bareReg(r api.Reg) api.Reg {
	r.Init = BareExpr(r.Init)
	r.At = 0
	return r
}

func bareSlot(s api.Slot) api.Slot {
	s.At = 0
	return s
}

func bareState(s api.State) api.State {
	s.Rules = each(s.Rules, bareRule)
	s.At = 0
	return s
}

func bareRule(r api.Rule) api.Rule {
	r.When = BareExpr(r.When)
	r.Dos = each(r.Dos, bareDo)
	r.At = 0
	return r
}

func bareDo(d api.Do) api.Do {
	d.Side, d.Qty, d.Price, d.Value = BareExpr(d.Side), BareExpr(d.Qty), BareExpr(d.Price), BareExpr(d.Value)
	d.At = 0
	return d
}

func sameReg(a, b api.Reg) bool {
	return a.Name == b.Name && a.Type == b.Type && SameExpr(a.Init, b.Init)
}

func sameSlot(a, b api.Slot) bool {
	return a.Name == b.Name
}

func sameState(a, b api.State) bool {
	return a.Name == b.Name && slices.EqualFunc(a.Rules, b.Rules, sameRule)
}

func sameRule(a, b api.Rule) bool {
	return SameExpr(a.When, b.When) && slices.EqualFunc(a.Dos, b.Dos, sameDo)
}

func sameDo(a, b api.Do) bool {
	return a.Kind == b.Kind && a.Order == b.Order && a.Name == b.Name &&
		SameExpr(a.Side, b.Side) && SameExpr(a.Qty, b.Qty) && SameExpr(a.Price, b.Price) && SameExpr(a.Value, b.Value)
}
