package table_test

import (
	"strconv"
	"strings"
	"testing"

	"tripwire/api"
	"tripwire/cost"
	"tripwire/lower"
	"tripwire/parse"
	"tripwire/table"
)

// writer writes texts of strategies whose registers are i, q, p, t, b, d, one of each type, and whose slots are o, u.
type writer struct{ below func(n int) int }

func (w writer) pick(l ...string) string { return l[w.below(len(l))] }

func (w writer) number() string { return strconv.Itoa(w.below(40)) }

func (w writer) name(to api.Type) string {
	return []string{api.TypeInt: "i", api.TypeQty: "q", api.TypePrice: "p", api.TypeTime: "t", api.TypeBool: "b", api.TypeSide: "d"}[to]
}

func (w writer) leaf(to api.Type) string {
	n := w.number()
	switch to {
	case api.TypeInt:
		return w.pick("i", n)
	case api.TypeQty:
		return w.pick("q", n+"q", "volume", "open")
	case api.TypePrice:
		return w.pick("p", n+"p", "bid", "ask", "last")
	case api.TypeTime:
		return w.pick("t", n+"t", "now")
	case api.TypeBool:
		return w.pick("b", "true", "false", "has bid", "has ask", "has last")
	}
	return w.pick("d", "buy", "sell")
}

// expr is one of that type, so large at most.
func (w writer) expr(to api.Type, size int) string {
	if size <= 1 {
		return w.leaf(to)
	}
	half := func(to api.Type) string { return w.expr(to, size/2) }
	some := api.Type(1 + w.below(4))
	if w.below(5) == 0 {
		return "(" + half(api.TypeBool) + " ? " + half(to) + " : " + half(to) + ")"
	}
	switch {
	case to == api.TypeSide:
		return w.leaf(to)
	case to == api.TypeBool && w.below(3) == 0:
		return "(" + half(some) + w.pick(" < ", " <= ", " > ", " >= ", " == ", " != ") + half(some) + ")"
	case to == api.TypeBool:
		return w.pick("!", "") + "(" + half(to) + w.pick(" && ", " || ") + half(to) + ")"
	case w.below(4) == 0:
		return []string{api.TypeInt: "int", api.TypeQty: "qty", api.TypePrice: "price", api.TypeTime: "time"}[to] + "(" + half(some) + ")"
	case w.below(4) == 0:
		return w.pick("min", "max") + "(" + half(to) + ", " + half(to) + ")"
	case w.below(4) == 0:
		return w.pick("abs(", "-(") + half(to) + ")"
	}
	return "(" + half(to) + w.pick(" + ", " - ", " % ") + half(to) + ")"
}

func (w writer) do(last bool) string {
	expr := func(to api.Type) string { return w.expr(to, 1+w.below(6)) }
	submit := func() string { return "submit " + expr(api.TypeSide) + " of " + expr(api.TypeQty) }
	slot := w.pick("", " as o", " as u")
	switch k := w.below(8); {
	case last && k == 0:
		return "halt"
	case last && k == 1:
		return "goto " + w.pick("a", "c", "z")
	case k == 2:
		return "cancel " + w.pick("o", "u")
	case k == 3:
		return "amend " + w.pick("o", "u") + " to " + expr(api.TypeQty) + " at " + expr(api.TypePrice)
	case k == 4:
		return submit() + " market" + slot
	case k >= 6:
		to := api.Type(1 + w.below(6))
		return "set " + w.name(to) + " = " + expr(to)
	}
	return submit() + " at " + expr(api.TypePrice) + w.pick(" limit", " ioc", " fok", " post") + slot
}

func (w writer) strategy() string {
	var all strings.Builder
	all.WriteString("strategy s { reg i int = " + w.pick("", "-") + w.number() + "; reg q qty = 1q; reg p price = 3p; reg t time = 0t; reg b bool = true; reg d side = sell; slot o; slot u;")
	for _, state := range []string{"a", "c", "z"} {
		all.WriteString(" state " + state + " {")
		for range w.below(4) {
			var dos []string
			for last := w.below(4); last >= 0; last-- {
				dos = append(dos, w.do(last == 0))
			}
			all.WriteString(" when " + w.expr(api.TypeBool, 1+w.below(16)) + " do " + strings.Join(dos, ", ") + ";")
		}
		all.WriteString(" }")
	}
	return all.String() + " }"
}

// lowered are tables that lower made of texts, with their costs.
func lowered(t *testing.T, from uint64, count int) (tables []api.Table, costs []api.Cost) {
	t.Helper()
	for k := range count {
		text := writer{draw(from + uint64(k))}.strategy()
		x, most, err := lower.Source(text)
		if no, at := parse.Wrong(err); no == api.ErrCostMuch || no == api.ErrLexLong {
			continue
		} else if err != nil {
			t.Fatalf("%q: %v at %d", text, err, at)
		}
		tables, costs = append(tables, x), append(costs, most)
	}
	return tables, costs
}

// What lower makes may be; its Bound has as many Acts as its cost; and its bytes are its own again.
func TestWhatLowerMakesMayBe(t *testing.T) {
	tables, costs := lowered(t, 7000000, 1500)
	acts := map[int]int{}
	for i, x := range tables {
		expectCheck(t, x, api.OK)
		if most, no := table.Bound(x); most.Acts != costs[i].Acts || no != api.OK {
			t.Errorf("the bound of %s is %v, %d; its cost %v", short(x), most, no, costs[i])
		}
		acts[costs[i].Acts]++
		expectBytes(t, x, framed(modelContent(x)))
	}
	if len(tables) < 1000 || len(acts) < 4 {
		t.Errorf("%d tables, actions %v", len(tables), acts)
	}
}

// A strategy at each of its bounds is taken, too.
func TestTheGreatestThatLowerMakes(t *testing.T) {
	name := func(k int) string { return longName[:15] + string(rune('a'+k)) }
	s := api.Strategy{Name: longName}
	for k := range 12 {
		s.Regs = append(s.Regs, api.Reg{Name: name(k), Type: api.TypeInt, Init: api.Node{Kind: api.NodeLit, Type: api.TypeInt, N: greatest}})
	}
	for k := range 4 {
		s.Slots = append(s.Slots, api.Slot{Name: name(k)})
	}
	yes := api.Node{Kind: api.NodeHas, Field: 3}
	last := api.Do{Kind: api.DoSet, Name: name(11), Value: api.Node{Kind: api.NodeReg, Name: name(11)}}
	for k := range 12 {
		rules := times(12, api.Rule{When: yes, Dos: append(times(7, last), api.Do{Kind: api.DoGoto, Name: name(k)})})
		rules[k].Dos = times(8, api.Do{Kind: api.DoCancel, Name: name(3)})
		s.States = append(s.States, api.State{Name: name(k), Rules: rules})
	}
	x, err := lower.Strategy(s)
	if err != nil {
		t.Fatal(err)
	}
	expectBound(t, x, 12+7, 8)
	expectBytes(t, x, framed(modelContent(x)))
	if most, err := cost.Strategy(s); err != nil || most.Acts != 8 {
		t.Error(most, err)
	}
}

// THERE AND BACK: two tables that are not the same have bytes that are not, either.
func TestNoTwoTablesHaveTheSameBytes(t *testing.T) {
	seen := map[string]api.Table{}
	add := func(x api.Table) {
		if modelCheck(x) != api.OK {
			return
		}
		b := bytesOf(t, x)
		if y, is := seen[b]; is && !sameTable(x, y) {
			t.Errorf("%s has the bytes of %s", short(x), short(y))
		}
		seen[b] = x
	}
	for k := range 400 {
		x := drawnTable(uint64(8000000 + k))
		add(x)
		for j := range 10 {
			add(slip(x, draw(uint64(k*100+j))))
		}
	}
	if len(seen) < 800 {
		t.Errorf("only %d tables", len(seen))
	}
}

// walk goes through a span by drawn ways, and counts its steps; what lies on the stack is never less than what is taken off, nor above 64, and is 1 at last.
func walk(t *testing.T, x api.Table, s api.Span, below func(n int) int) int {
	t.Helper()
	steps, p := 0, pair{s.From, 0}
	for p.at < s.To && steps <= len(x.Code) {
		next, atLeast := ways(x.Code[p.at], p)
		if p.high < atLeast || p.high > 64 {
			t.Fatalf("%d lie at %d of %s", p.high, p.at, short(x))
		}
		p = next[below(len(next))]
		steps++
	}
	if p != (pair{s.To, 1}) {
		t.Fatalf("%v of %s ends at %v", s, short(x), p)
	}
	return steps
}

// What may be runs within its Bound, whichever way it goes; and some need all of it.
func TestWhatMayBeRunsWithinItsBound(t *testing.T) {
	all, _ := lowered(t, 9000000, 300)
	for k := range 1500 {
		all = append(all, drawnTable(uint64(9000000+k)), slip(drawnTable(uint64(9100000+k)), draw(uint64(k))))
	}
	met, walked := 0, 0
	for k, x := range all {
		most, no := table.Bound(x)
		if no != api.OK {
			continue
		}
		below := draw(uint64(9200000 + k))
		for range 6 {
			guards := x.States[below(len(x.States))]
			steps, acts := 0, 0
			for i, g := range guards {
				steps += walk(t, x, g.When, below)
				if i < len(guards)-1 && below(3) > 0 {
					continue
				}
				for _, r := range g.Rows {
					for _, s := range []api.Span{r.Side, r.Qty, r.Price, r.Value} {
						if s != (api.Span{}) {
							steps += walk(t, x, s, below)
						}
					}
					if r.Kind <= api.DoCancel {
						acts++
					}
				}
				break
			}
			if steps > most.Steps || acts > most.Acts {
				t.Errorf("%s has %d steps, %d actions; its bound is %v", short(x), steps, acts, most)
			}
			if walked++; steps == most.Steps && acts == most.Acts && steps > 0 {
				met++
			}
		}
	}
	if met < 30 || walked < 5000 {
		t.Errorf("%d bounds were met, of %d", met, walked)
	}
}
