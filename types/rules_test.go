package types_test

import (
	"testing"

	"tripwire/api"
)

// What rules ask and do.

// wrongTyped are expressions of each type but one, at the place 70.
func wrongTyped(but api.Type) []api.Node {
	plain := [...]api.Node{tInt: num(3), tQty: field(4), tPrice: price(), tTime: field(5), tBool: has(1), tSide: buy()}
	var all []api.Node
	for to := tInt; to <= tSide; to++ {
		if to != but {
			x := at(8, reg(regNames[to]))
			all = append(all, at(70, plain[to]), at(70, x), at(70, cond(at(7, has(1)), x, at(9, x))))
		}
	}
	return all
}

// rightTyped are expressions of one type.
func rightTyped(to api.Type) []api.Node {
	x := reg(regNames[to])
	all := []api.Node{x, cond(has(1), x, x)}
	switch to {
	case tBool:
		return append(all, has(2), unary(api.OperNot, x), lit(to, 1), binary(api.OperLe, num(1), num(2)))
	case tSide:
		return append(all, lit(to, 1), lit(to, 2))
	}
	return append(all, lit(to, 0), unary(api.OperNeg, x), binary(api.OperAdd, x, x), conv(to, num(1)))
}

func TestWhenMustBeBool(t *testing.T) {
	rule := func(when api.Node) api.Rule { return api.Rule{When: when, Dos: []api.Do{halt()}, At: 12} }
	for _, n := range rightTyped(tBool) {
		expectFine(t, full(rule(n)))
	}
	fine := rule(has(1))
	for _, n := range wrongTyped(tBool) {
		for _, rules := range [][]api.Rule{{rule(n)}, {fine, rule(n)}, {fine, fine, rule(n), fine}} {
			expectWrong(t, full(rules...), fit, 70)
			s := full(fine)
			s.States[1].Rules = rules
			expectWrong(t, s, fit, 70)
		}
	}
	for _, x := range faults(500) {
		expectWrongBelow(t, full(rule(x.n)), x.no, x.place)
		expectWrongBelow(t, full(fine, rule(x.n)), x.no, x.place)
		// What is wrong below is told ahead of what comes of it.
		expectWrongBelow(t, full(rule(at(1, binary(api.OperAdd, x.n, lots())))), x.no, x.place)
	}
}

// partOf has something done with one of its expressions another one.
type partOf struct {
	name string
	must api.Type
	with func(n api.Node) api.Do
}

func partsOfDos() []partOf {
	all := []partOf{
		{"market side", tSide, func(n api.Node) api.Do { return market("o", n, lots()) }},
		{"market qty", tQty, func(n api.Node) api.Do { return market("", buy(), n) }},
		{"amend qty", tQty, func(n api.Node) api.Do { return amend("o", n, price()) }},
		{"amend price", tPrice, func(n api.Node) api.Do { return amend("u", lots(), n) }},
	}
	for to := tInt; to <= tSide; to++ {
		all = append(all, partOf{"set", to, func(n api.Node) api.Do { return set(regNames[to], n) }})
	}
	for _, order := range []api.Kind{api.Limit, api.Now, api.All, api.Post} {
		of := func(d api.Do) api.Do {
			d.Order = order
			return d
		}
		all = append(all,
			partOf{"side", tSide, func(n api.Node) api.Do { return of(submit("u", n, lots(), price())) }},
			partOf{"qty", tQty, func(n api.Node) api.Do { return of(submit("", buy(), n, price())) }},
			partOf{"price", tPrice, func(n api.Node) api.Do { return of(submit("o", buy(), lots(), n)) }})
	}
	return all
}

func TestPartsOfWhatIsDone(t *testing.T) {
	for _, p := range partsOfDos() {
		for _, n := range rightTyped(p.must) {
			expectFine(t, doing(p.with(n)))
			expectFine(t, doing(cancel("o"), p.with(n), halt()))
		}
		for _, n := range wrongTyped(p.must) {
			d := doAt(12, p.with(n))
			expectWrong(t, doing(d), fit, 70)
			expectWrong(t, doing(cancel("o"), set("i", num(1)), d, halt(), halt()), fit, 70)
		}
		for _, x := range faults(500) {
			d := doAt(12, p.with(x.n))
			expectWrongBelow(t, doing(d), x.no, x.place)
			expectWrongBelow(t, doing(market("", buy(), lots()), d, cancel("nothing")), x.no, x.place)
		}
	}
}

// Side, Qty, Price, in this order: of each one what is wrong below it, then its type, ahead of the next one's.
func TestWhichPartIsFirst(t *testing.T) {
	bad := func(place int) []api.Node {
		return []api.Node{at(place, has(1)), at(place, binary(api.OperAdd, num(1), has(1))), at(place, reg("zz"))}
	}
	expect := func(s api.Strategy, kind, place int) {
		t.Helper()
		switch kind {
		case 0:
			expectWrong(t, s, fit, place)
		case 1:
			expectWrongBelow(t, s, fit, place)
		case 2:
			expectWrongBelow(t, s, none, place)
		}
	}
	for a, x := range bad(81) {
		for b, y := range bad(82) {
			expect(doing(submit("o", x, y, price())), a, 81)
			expect(doing(submit("o", x, lots(), y)), a, 81)
			expect(doing(submit("o", buy(), x, y)), a, 81)
			expect(doing(submit("o", buy(), y, x)), b, 82)
			expect(doing(market("o", y, x)), b, 82)
			expect(doing(amend("o", x, y)), a, 81)
			expect(doing(amend("o", y, x)), b, 82)
			// What When is comes ahead of what is done, one thing done ahead of the next, one rule and one state ahead of another.
			r := api.Rule{When: x, Dos: []api.Do{set("i", y)}}
			if a == 0 {
				r.When = at(81, num(1))
			}
			expect(full(r), a, 81)
			expect(doing(set("i", x), set("i", y)), a, 81)
			s := full(api.Rule{When: has(1), Dos: []api.Do{set("i", x)}}, api.Rule{When: y, Dos: []api.Do{halt()}})
			expect(s, a, 81)
			s.States[1].Rules = []api.Rule{{When: y, Dos: []api.Do{set("i", y)}}}
			s.States[0].Rules = s.States[0].Rules[:1]
			expect(s, a, 81)
		}
		// A name that is none is told ahead of all parts.
		for _, d := range []api.Do{submit("x", x, x, x), market("x", x, x), amend("x", x, x), set("x", x)} {
			expectWrong(t, doing(doAt(80, d)), none, 80)
		}
	}
}

// Nothing is done behind a goto or a halt: that is told ahead of all that is wrong with it.
func TestNothingBehindGotoAndHalt(t *testing.T) {
	behindIt := append(dosOfEach(), cancel("x"), goTo("x"), set("x", has(1)), set("i", has(1)), set("i", reg("zz")), submit("x", num(1), num(1), reg("zz")), amend("o", num(1), num(1)))
	for _, end := range []api.Do{halt(), goTo("a"), goTo("z")} {
		expectFine(t, doing(end))
		expectFine(t, doing(append(dosOfEach()[:7], end)...))
		for _, d := range behindIt {
			expectWrong(t, doing(doAt(90, end), doAt(91, d)), last, 91)
			expectWrong(t, doing(doAt(89, cancel("o")), doAt(90, end), doAt(91, d), doAt(92, d)), last, 91)
		}
		// What is wrong with the goto itself, or ahead of it, is told first.
		expectWrong(t, doing(doAt(90, goTo("x")), doAt(91, end)), none, 90)
		expectWrong(t, doing(doAt(90, cancel("x")), end, doAt(91, end)), none, 90)
		// Another rule, another state begins anew.
		fine := api.Rule{When: has(1), Dos: []api.Do{end}}
		s := full(fine, fine, fine)
		s.States[1].Rules = []api.Rule{fine, fine}
		expectFine(t, s)
	}
	for _, d := range dosOfEach()[:9] {
		expectFine(t, doing(d, d, d))
	}
}

// As many of all as may be.
func TestTheGreatestStrategy(t *testing.T) {
	s := api.Strategy{Name: longName}
	for k := range 12 {
		letter := string(rune('a' + k))
		s.Regs = append(s.Regs, api.Reg{Name: "r" + letter, Type: tInt, Init: num(int64(k)), At: 100 + k})
		if k < 4 {
			s.Slots = append(s.Slots, api.Slot{Name: "o" + letter, At: 200 + k})
		}
		s.States = append(s.States, api.State{Name: "s" + letter, At: 300 + k})
	}
	rule := api.Rule{When: has(1), Dos: append(times(7, set("rl", reg("ra"))), goTo("sl"))}
	for k := range s.States {
		s.States[k].Rules = times(12, rule)
	}
	expectFine(t, s)
	// The last part of all is wrong.
	s = copied(s)
	end := &s.States[11].Rules[11].Dos[7]
	end.Name, end.At = "sm", 999
	expectWrong(t, s, none, 999)
	*end = set("rl", at(998, reg("rm")))
	expectWrongBelow(t, s, none, 998)
	s.Regs[11].Name = "ra"
	expectWrong(t, s, twice, 111)
}
