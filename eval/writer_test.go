package eval_test

import (
	"strconv"
	"strings"

	"tripwire/api"
)

// writer writes texts of strategies whose registers are i, q, p, t, b, d, one of each type, and whose slots are o, u.
type writer struct{ below func(n int) int }

func (w writer) pick(l ...string) string { return l[w.below(len(l))] }

func (w writer) number() string {
	if w.below(12) == 0 {
		return "9223372036854775807"
	}
	return strconv.Itoa(w.below(12))
}

func (w writer) name(to api.Type) string {
	return []string{api.TypeInt: "i", api.TypeQty: "q", api.TypePrice: "p", api.TypeTime: "t", api.TypeBool: "b", api.TypeSide: "d"}[to]
}

func (w writer) leaf(to api.Type) string {
	n := w.number()
	switch to {
	case api.TypeInt:
		return w.pick("i", n)
	case api.TypeQty:
		return w.pick("q", n+"q", "volume", "open")
	case api.TypePrice:
		return w.pick("p", n+"p", "bid", "ask", "last")
	case api.TypeTime:
		return w.pick("t", n+"t", "now")
	case api.TypeBool:
		return w.pick("b", "true", "false", "has bid", "has ask", "has last")
	}
	return w.pick("d", "buy", "sell")
}

// expr is one of that type, so large at most.
func (w writer) expr(to api.Type, size int) string {
	if size <= 1 {
		return w.leaf(to)
	}
	half := func(to api.Type) string { return w.expr(to, size/2) }
	some := api.Type(1 + w.below(4))
	if w.below(5) == 0 {
		return "(" + half(api.TypeBool) + " ? " + half(to) + " : " + half(to) + ")"
	}
	switch {
	case to == api.TypeSide:
		return w.leaf(to)
	case to == api.TypeBool && w.below(3) == 0:
		return "(" + half(some) + w.pick(" < ", " <= ", " > ", " >= ", " == ", " != ") + half(some) + ")"
	case to == api.TypeBool:
		return w.pick("!", "") + "(" + half(to) + w.pick(" && ", " || ") + half(to) + ")"
	}
	return w.reckoned(to, some, half)
}

// reckoned is a number that is made of others; some is the type of one that is asked for otherwise.
func (w writer) reckoned(to, some api.Type, half func(to api.Type) string) string {
	switch w.below(8) {
	case 0:
		return []string{api.TypeInt: "int", api.TypeQty: "qty", api.TypePrice: "price", api.TypeTime: "time"}[to] + "(" + half(some) + ")"
	case 1:
		return w.pick("min", "max") + "(" + half(to) + ", " + half(to) + ")"
	case 2:
		return w.pick("abs(", "-(") + half(to) + ")"
	case 3:
		return "(" + half(api.TypeInt) + " * " + half(to) + ")"
	case 4:
		return "(" + half(to) + " / " + half(api.TypeInt) + ")"
	case 5:
		if to == api.TypeInt {
			return w.pick("("+half(some)+" / "+half(some)+")", "("+half(api.TypePrice)+" * "+half(api.TypeQty)+")")
		}
	}
	return "(" + half(to) + w.pick(" + ", " - ", " % ") + half(to) + ")"
}

func (w writer) do(last bool) string {
	expr := func(to api.Type) string { return w.expr(to, 1+w.below(6)) }
	submit := func() string { return "submit " + expr(api.TypeSide) + " of " + expr(api.TypeQty) }
	slot := w.pick("", " as o", " as u")
	switch k := w.below(8); {
	case last && k == 0:
		return "halt"
	case last && k == 1:
		return "goto " + w.pick("a", "c", "z")
	case k == 2:
		return "cancel " + w.pick("o", "u")
	case k == 3:
		return "amend " + w.pick("o", "u") + " to " + expr(api.TypeQty) + " at " + expr(api.TypePrice)
	case k == 4:
		return submit() + " market" + slot
	case k >= 6:
		to := api.Type(1 + w.below(6))
		return "set " + w.name(to) + " = " + expr(to)
	}
	return submit() + " at " + expr(api.TypePrice) + w.pick(" limit", " ioc", " fok", " post") + slot
}

func (w writer) strategy() string {
	var all strings.Builder
	all.WriteString("strategy s { reg i int = " + w.pick("", "-") + w.number() + "; reg q qty = 1q; reg p price = 3p; reg t time = 0t; reg b bool = true; reg d side = sell; slot o; slot u;")
	for _, state := range []string{"a", "c", "z"} {
		all.WriteString(" state " + state + " {")
		for range w.below(5) {
			var dos []string
			for last := w.below(4); last >= 0; last-- {
				dos = append(dos, w.do(last == 0))
			}
			all.WriteString(" when " + w.expr(api.TypeBool, 1+w.below(16)) + " do " + strings.Join(dos, ", ") + ";")
		}
		all.WriteString(" }")
	}
	return all.String() + " }"
}
