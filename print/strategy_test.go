package print_test

import (
	"fmt"
	"strings"
	"testing"

	"tripwire/api"
)

func TestSmallestStrategy(t *testing.T) {
	expectStrategy(t, smallest(), "strategy s {\n  state a {\n  }\n}\n")
	expectStrategy(t, api.Strategy{Name: longName, Regs: []api.Reg{}, Slots: []api.Slot{}, States: []api.State{{Name: longName, Rules: []api.Rule{}}}},
		"strategy abcdefghijklmnop {\n  state abcdefghijklmnop {\n  }\n}\n")
}

func TestWholeStrategy(t *testing.T) {
	s := api.Strategy{
		Name:  "both",
		Regs:  []api.Reg{{Name: "n", Type: api.TypeInt, Init: num(0)}, {Name: "lim", Type: api.TypePrice, Init: unary(1, lit(3, 7))}},
		Slots: []api.Slot{{Name: "o"}, {Name: "p"}},
		States: []api.State{
			{Name: "wait", Rules: []api.Rule{
				{When: binary(17, has(2), binary(14, field(2), reg("lim"))), Dos: []api.Do{
					{Kind: api.DoSubmit, Order: api.Limit, Side: lit(6, 1), Qty: lit(2, 5), Price: field(2), Name: "o"},
					set("n", binary(6, reg("n"), num(1))),
					{Kind: api.DoGoto, Name: "hold"},
				}},
				{When: binary(15, field(5), lit(4, 100)), Dos: []api.Do{halt()}},
			}},
			{Name: "empty"},
			{Name: "hold", Rules: []api.Rule{{When: lit(5, 1), Dos: []api.Do{{Kind: api.DoCancel, Name: "o"}, {Kind: api.DoAmend, Name: "p", Qty: lit(2, 1), Price: binary(7, field(1), lit(3, 1))}}}}},
		},
	}
	expectStrategy(t, s, `strategy both {
  reg n int = 0;
  reg lim price = -7p;
  slot o;
  slot p;
  state wait {
    when has ask && ask <= lim do submit buy of 5q at ask limit as o, set n = n + 1, goto hold;
    when now > 100t do halt;
  }
  state empty {
  }
  state hold {
    when true do cancel o, amend p to 1q at bid - 1p;
  }
}
`)
}

// Registers of each type that begin with each literal, and with a number below a minus.
func TestRegisters(t *testing.T) {
	for to := api.TypeInt; to <= api.TypeSide; to++ {
		for _, name := range []string{"n", longName} {
			head := "reg " + name + " " + typeWords[to] + " = "
			expect := func(init api.Node, want string) {
				t.Helper()
				expectReg(t, api.Reg{Name: name, Type: to, Init: init}, head+want+";")
			}
			for number := api.TypeInt; number <= api.TypeTime; number++ {
				for _, n := range []int64{0, 1, 42, greatest} {
					text := fmt.Sprint(n, letters[number])
					expect(lit(number, n), text)
					expect(unary(1, lit(number, n)), "-"+text)
				}
			}
			expect(lit(5, 0), "false")
			expect(lit(5, 1), "true")
			expect(lit(6, 1), "buy")
			expect(lit(6, 2), "sell")
		}
	}
}

// A submit of each kind of order, with and without a name.
func TestSubmits(t *testing.T) {
	for kind, word := range map[api.Kind]string{1: "limit", 2: "market", 3: "ioc", 4: "fok", 5: "post"} {
		for _, side := range []struct {
			n    api.Node
			text string
		}{{lit(6, 1), "buy"}, {lit(6, 2), "sell"}, {cond(reg("w"), lit(6, 1), lit(6, 2)), "w ? buy : sell"}} {
			d := api.Do{Kind: api.DoSubmit, Order: kind, Side: side.n, Qty: binary(6, lit(2, 1), reg("n"))}
			want := "submit " + side.text + " of 1q + n " + word
			if kind != api.Market {
				d.Price = cond(has(1), field(1), lit(3, 9))
				want = "submit " + side.text + " of 1q + n at has bid ? bid : 9p " + word
			}
			expectDos(t, want, d)
			for _, name := range []string{"o", longName} {
				d.Name = name
				expectDos(t, want+" as "+name, d)
			}
		}
	}
}

func TestOtherDos(t *testing.T) {
	for _, name := range []string{"o", longName} {
		amend := api.Do{Kind: api.DoAmend, Name: name, Qty: lit(2, 2), Price: unary(1, lit(3, 3))}
		cancel, jump := api.Do{Kind: api.DoCancel, Name: name}, api.Do{Kind: api.DoGoto, Name: name}
		expectDos(t, "amend "+name+" to 2q at -3p", amend)
		expectDos(t, "cancel "+name, cancel)
		expectDos(t, "set "+name+" = "+name+" * (1 + 2)", set(name, binary(8, reg(name), binary(6, num(1), num(2)))))
		expectDos(t, "set "+name+" = a ? b : c", set(name, cond(reg("a"), reg("b"), reg("c"))))
		expectDos(t, "goto "+name, jump)
		expectDos(t, "halt", halt())
		expectDos(t, "halt, halt", halt(), halt())
		expectDos(t, "cancel "+name+", goto "+name+", amend "+name+" to 2q at -3p, set "+name+" = true, halt, submit buy of 1q market, cancel "+name,
			cancel, jump, amend, set(name, lit(5, 1)), halt(), api.Do{Kind: api.DoSubmit, Order: 2, Side: lit(6, 1), Qty: lit(2, 1)}, cancel)
	}
	expectDos(t, "amend o to a ? b : c at d ? e : f", api.Do{Kind: api.DoAmend, Name: "o", Qty: cond(reg("a"), reg("b"), reg("c")), Price: cond(reg("d"), reg("e"), reg("f"))})
}

// A guard of each level stands without brackets.
func TestGuards(t *testing.T) {
	for _, k := range kids() {
		expectStrategy(t, ruled(k.n, halt()), ruleText(k.text, "halt"))
	}
}

// As many of each kind as may be, and one more.
func TestAsManyAsMayBe(t *testing.T) {
	around := func(regs, slots, states string) string { return "strategy s {\n" + regs + slots + states + "}\n" }
	const state, open, end = "  state a {\n  }\n", "  state a {\n", "  }\n"
	s := keeping(times(12, api.Reg{Name: "n", Type: 1, Init: num(1)})...)
	expectStrategy(t, s, around(repeat("  reg n int = 1;\n", 12), "", state))
	s.Regs = append(s.Regs, s.Regs[0])
	expectNoStrategy(t, s, tooMany)

	s = smallest()
	s.Slots = times(4, api.Slot{Name: "o"})
	expectStrategy(t, s, around("", repeat("  slot o;\n", 4), state))
	s.Slots = append(s.Slots, s.Slots[0])
	expectNoStrategy(t, s, tooMany)

	s = smallest()
	s.States = times(12, s.States[0])
	expectStrategy(t, s, around("", "", repeat(state, 12)))
	s.States = append(s.States, s.States[0])
	expectNoStrategy(t, s, tooMany)

	s = smallest()
	s.States[0].Rules = times(12, api.Rule{When: has(1), Dos: []api.Do{halt()}})
	expectStrategy(t, s, around("", "", open+repeat("    when has bid do halt;\n", 12)+end))
	s.States[0].Rules = append(s.States[0].Rules, s.States[0].Rules[0])
	expectNoStrategy(t, s, tooMany)

	s = ruled(has(1), times(8, halt())...)
	expectStrategy(t, s, around("", "", open+"    when has bid do halt"+repeat(", halt", 7)+";\n"+end))
	expectNoStrategy(t, ruled(has(1), times(9, halt())...), tooMany)

	s = keeping(times(12, api.Reg{Name: "n", Type: 1, Init: num(1)})...)
	s.Slots = times(4, api.Slot{Name: "o"})
	s.States = times(12, api.State{Name: "a", Rules: times(12, api.Rule{When: reg("w"), Dos: []api.Do{halt()}})})
	want := around(repeat("  reg n int = 1;\n", 12), repeat("  slot o;\n", 4), repeat(open+repeat("    when w do halt;\n", 12)+end, 12))
	if len(want) > most {
		t.Fatal(len(want))
	}
	expectStrategy(t, s, want)
}

// Each line has no blank too many, and ends by a byte 10.
func TestLines(t *testing.T) {
	d := drawer{draw(20)}
	for range 300 {
		s, no := turned(d.strategy())
		if no != api.OK {
			continue
		}
		if !strings.HasSuffix(s, "\n}\n") {
			t.Errorf("%q has another end", s)
		}
		for _, line := range strings.Split(strings.TrimSuffix(s, "\n"), "\n") {
			words := strings.TrimLeft(line, " ")
			ahead := len(line) - len(words)
			if words == "" || words != strings.Join(strings.Fields(words), " ") || ahead != 0 && ahead != 2 && ahead != 4 || strings.ContainsAny(line, "\t\r#") {
				t.Errorf("the line %q", line)
			}
		}
	}
}
