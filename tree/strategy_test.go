package tree_test

import (
	"slices"
	"strings"
	"testing"

	"tripwire/api"
	"tripwire/tree"
)

// submit is one into a slot, with a price.
func submit() api.Do {
	return api.Do{Kind: api.DoSubmit, Order: api.Limit, Name: "o", Side: expr("buy"), Qty: expr("2q"), Price: expr("ask + 1p")}
}

// deeds has something of each kind that is done, a submit at any price and into no slot among them.
func deeds() []api.Do {
	market := submit()
	market.Order, market.Price, market.Name = api.Market, api.Node{}, ""
	return []api.Do{
		submit(), market,
		{Kind: api.DoAmend, Name: "o", Qty: expr("3q"), Price: expr("bid - 1p")},
		{Kind: api.DoCancel, Name: "o"},
		{Kind: api.DoSet, Name: "n", Value: expr("n + 1")},
		{Kind: api.DoGoto, Name: "a"},
		halt(),
	}
}

// whole is a strategy with several of everything, of which each has its place.
func whole() api.Strategy {
	s := api.Strategy{
		Name:  "all",
		Regs:  []api.Reg{{Name: "n", Type: 1, Init: expr("-5"), At: 3}, {Name: "w", Type: 6, Init: expr("sell"), At: 4}, {Name: "b", Type: 5, Init: expr("true"), At: 5}},
		Slots: []api.Slot{{Name: "o", At: 6}, {Name: "u", At: 7}},
		States: []api.State{
			{Name: "a", At: 8, Rules: []api.Rule{{When: all(), Dos: deeds(), At: 9}, {When: expr("b"), Dos: deeds()[5:], At: 10}}},
			{Name: "z", At: 11},
			{Name: "last1", At: 12, Rules: []api.Rule{{When: expr("a ? b : c"), Dos: deeds()[:3], At: 13}}},
		},
	}
	for i := range s.States[0].Rules[0].Dos {
		s.States[0].Rules[0].Dos[i].At = 20 + i
	}
	return s
}

// rule is the first of a strategy.
func rule(s *api.Strategy) *api.Rule { return &s.States[0].Rules[0] }

// names that may not be.
var wrongNames = []string{"", "bid", "when", strings.Repeat("q", 17), "a b", " a", "A", "1", "#"}

func TestStrategies(t *testing.T) {
	expectCheck(t, smallest(), api.OK)
	expectCheck(t, whole(), api.OK)
	expectCheck(t, api.Strategy{}, wrongForm)
	expectCheck(t, api.Strategy{Name: "s"}, wrongForm)
	for _, d := range deeds() {
		expectCheck(t, doing(d), api.OK)
	}
}

// named are the names of a strategy, one of each place where there is one.
func named(s *api.Strategy) []*string {
	l := []*string{&s.Name, &s.Regs[1].Name, &s.Slots[1].Name, &s.States[1].Name}
	for i, d := range rule(s).Dos {
		if d.Kind != api.DoHalt {
			l = append(l, &rule(s).Dos[i].Name)
		}
	}
	return l
}

func TestNames(t *testing.T) {
	s := whole()
	for i := range named(&s) {
		for _, name := range wrongNames {
			s := whole()
			*named(&s)[i] = name
			want := wrongForm
			// A submit goes into a slot, or into none.
			if name == "" && (i == 4 || i == 5) {
				want = api.OK
			}
			expectCheck(t, s, want)
		}
		for _, name := range []string{"a", "bids", strings.Repeat("q", 16), "same"} {
			s := whole()
			*named(&s)[i] = name
			expectCheck(t, s, api.OK)
		}
	}
}

// Whether two have one name, and whether a name stands for anything, is not asked.
func TestOneNameForAll(t *testing.T) {
	s := whole()
	for _, p := range named(&s) {
		*p = "same"
	}
	s.Regs[0].Name, s.Slots[0].Name, s.States[0].Name = "same", "same", "same"
	expectCheck(t, s, api.OK)
	s = doing(api.Do{Kind: api.DoGoto, Name: "nowhere"})
	expectCheck(t, s, api.OK)
}

func TestRegisterTypes(t *testing.T) {
	for of := range 256 {
		want := wrongForm
		if of >= 1 && of <= 6 {
			want = api.OK
		}
		// A literal of another type than the register's is of the right form, too.
		for _, init := range []string{"0", "true", "sell", "-3p"} {
			expectCheck(t, keeping(api.Reg{Name: "n", Type: api.Type(of), Init: expr(init)}), want)
		}
	}
}

func TestInits(t *testing.T) {
	keep := func(n api.Node) api.Strategy { return keeping(api.Reg{Name: "n", Type: 1, Init: n}) }
	for _, s := range []string{"0", "1", "9223372036854775807", "2q", "3p", "4t", "true", "false", "buy", "sell", "-0", "-1", "-9223372036854775807", "-2q", "-3p", "-4t"} {
		expectCheck(t, keep(expr(s)), api.OK)
	}
	for _, s := range []string{
		"a", "bid", "has bid", "1 + 2", "true ? 1 : 2", "abs(1)", "min(1, 2)", "int(1)", "price(1)", "--1", "-(1 + 2)", "-a", "-bid", "-has bid", "-abs(1)", "-int(1)", "-price(2)",
		"-true", "-false", "-buy", "-sell", "!1", "!true", "!!true", "-!1", "!-1",
	} {
		expectCheck(t, keep(expr(s)), wrongForm)
	}
	odd := unary(api.OperNeg, num(1))
	odd.N = 1
	typed := unary(api.OperNeg, num(1))
	typed.Type = api.TypeInt
	for _, n := range []api.Node{
		{}, num(-1), num(least), lit(5, 2), lit(6, 0), lit(0, 1), lit(7, 1), unary(1), unary(1, num(-1)), unary(1, num(1), num(1)), unary(1, api.Node{}), unary(3, num(1)), odd, typed,
		{Kind: api.NodeLit, Type: 1, Kids: []api.Node{num(1)}}, unary(1, api.Node{Kind: api.NodeLit, Type: 1, Kids: []api.Node{num(1)}}), call(1, num(1)), {Kind: 10, Type: 1},
	} {
		expectCheck(t, keep(n), wrongForm)
	}
	// One that is too deep has not its form either.
	for _, layer := range layers {
		for _, depth := range []int{1, 23, 24, 25, 40} {
			expectCheck(t, keep(grown(layer(num(1)), depth, layer)), wrongForm)
		}
	}
}

func TestHowMany(t *testing.T) {
	for count := range 300 {
		for _, x := range []struct {
			what        string
			least, most int
			turn        func(s *api.Strategy)
		}{
			{"registers", 0, 12, func(s *api.Strategy) { s.Regs = slices.Repeat(s.Regs[:1], count) }},
			{"slots", 0, 4, func(s *api.Strategy) { s.Slots = slices.Repeat(s.Slots[:1], count) }},
			{"states", 1, 12, func(s *api.Strategy) { s.States = slices.Repeat(s.States[1:2], count) }},
			{"rules", 0, 12, func(s *api.Strategy) { s.States[2].Rules = slices.Repeat(s.States[2].Rules[:1], count) }},
			{"things done", 1, 8, func(s *api.Strategy) { rule(s).Dos = slices.Repeat(rule(s).Dos[4:5], count) }},
		} {
			s := whole()
			x.turn(&s)
			want := api.OK
			switch {
			case count < x.least:
				want = wrongForm
			case count > x.most:
				want = tooMany
			}
			if no := tree.Check(s); no != want {
				t.Errorf("%d %s: %d; want %d", count, x.what, no, want)
			}
		}
	}
}

// How many there are is looked at ahead of them.
func TestTooManyThatAreWrong(t *testing.T) {
	s := smallest()
	s.Regs = make([]api.Reg, 13)
	expectCheck(t, s, tooMany)
	s.Regs = make([]api.Reg, 12)
	expectCheck(t, s, wrongForm)
	s = smallest()
	s.Slots = make([]api.Slot, 5)
	expectCheck(t, s, tooMany)
	s.Slots = make([]api.Slot, 4)
	expectCheck(t, s, wrongForm)
	s.Slots = nil
	s.States = make([]api.State, 13)
	expectCheck(t, s, tooMany)
	s.States = make([]api.State, 12)
	expectCheck(t, s, wrongForm)
	s.States = []api.State{{Name: "a", Rules: make([]api.Rule, 13)}}
	expectCheck(t, s, tooMany)
	s.States = []api.State{{Name: "a", Rules: make([]api.Rule, 12)}}
	expectCheck(t, s, wrongForm)
	expectCheck(t, ruled(has(1), make([]api.Do, 9)...), tooMany)
	expectCheck(t, ruled(has(1), make([]api.Do, 8)...), wrongForm)
	expectCheck(t, ruled(has(1)), wrongForm)
}

// As much of everything as may be.
func TestTheGreatest(t *testing.T) {
	deep := grown(num(1), deepest, layers["minus"])
	d := api.Do{Kind: api.DoSubmit, Order: api.Post, Name: strings.Repeat("o", 16), Side: deep, Qty: deep, Price: deep}
	r := api.Rule{When: deep, Dos: slices.Repeat([]api.Do{d}, 8)}
	s := api.Strategy{
		Name:   strings.Repeat("s", 16),
		Regs:   slices.Repeat([]api.Reg{{Name: strings.Repeat("r", 16), Type: 6, Init: expr("-9223372036854775807")}}, 12),
		Slots:  slices.Repeat([]api.Slot{{Name: strings.Repeat("z", 16)}}, 4),
		States: slices.Repeat([]api.State{{Name: strings.Repeat("a", 16), Rules: slices.Repeat([]api.Rule{r}, 12)}}, 12),
	}
	expectCheck(t, s, api.OK)
	last := copied(s)
	last.States[11].Rules[11].Dos[7].Price = layers["minus"](deep)
	expectCheck(t, last, tooDeep)
	last.States[11].Rules[11].Dos[7].Qty = num(-1)
	expectCheck(t, last, wrongForm)
	last.States[11].Rules[11].Dos[6].Qty = layers["minus"](deep)
	expectCheck(t, last, tooDeep)
}

func TestWhen(t *testing.T) {
	for _, x := range []struct {
		n    api.Node
		want api.Errno
	}{
		{all(), api.OK}, {num(1), api.OK}, {api.Node{}, wrongForm}, {num(-1), wrongForm}, {placed(api.Node{}, 3), wrongForm},
		{grown(num(1), 24, layers["not"]), api.OK}, {grown(num(1), 25, layers["not"]), tooDeep}, {grown(num(-1), 25, layers["not"]), wrongForm},
	} {
		expectCheck(t, ruled(x.n, halt()), x.want)
	}
}

func TestKindsOfDeeds(t *testing.T) {
	for kind := range 256 {
		for _, d := range deeds() {
			x := d
			x.Kind = api.DoKind(kind)
			alike := x.Kind == d.Kind || x.Kind == api.DoCancel && d.Kind == api.DoGoto || x.Kind == api.DoGoto && d.Kind == api.DoCancel
			want := wrongForm
			if alike {
				want = api.OK
			}
			expectCheck(t, doing(x), want)
		}
	}
}

func TestOrdersOfDeeds(t *testing.T) {
	for order := range 256 {
		for i, d := range deeds() {
			d.Order = api.Kind(order)
			right := order == 0
			switch i {
			case 0:
				right = order >= 1 && order <= 5 && order != 2
			case 1:
				right = order == 2
			}
			want := wrongForm
			if right {
				want = api.OK
			}
			expectCheck(t, doing(d), want)
		}
	}
}

// parts are the expressions of something that is done.
func parts(d *api.Do) map[string]*api.Node {
	return map[string]*api.Node{"Side": &d.Side, "Qty": &d.Qty, "Price": &d.Price, "Value": &d.Value}
}

// partsOf says which of them each of deeds has.
var partsOf = [][]string{{"Side", "Qty", "Price"}, {"Side", "Qty"}, {"Qty", "Price"}, {}, {"Value"}, {}, {}}

func TestPartsOfDeeds(t *testing.T) {
	deep := grown(num(1), 25, layers["not"])
	for i, d := range deeds() {
		for part := range parts(&d) {
			x := d
			p := parts(&x)[part]
			set := func(n api.Node, want api.Errno) {
				t.Helper()
				*p = n
				expectCheck(t, doing(x), want)
			}
			if slices.Contains(partsOf[i], part) {
				set(api.Node{}, wrongForm)
				set(placed(api.Node{}, 7), wrongForm)
				set(num(-1), wrongForm)
				set(unary(1, num(-1)), wrongForm)
				set(api.Node{Kids: []api.Node{}}, wrongForm)
				set(deep, tooDeep)
				set(binary(6, deep, api.Node{}), wrongForm)
				set(all(), api.OK)
				set(expr("sell"), api.OK)
				continue
			}
			for _, at := range []int{least, -1, 0, 1, greatest} {
				set(placed(api.Node{}, at), api.OK)
			}
			set(api.Node{Kids: []api.Node{}}, api.OK)
			set(api.Node{Kids: []api.Node{{}}}, wrongForm)
			set(api.Node{Kids: []api.Node{{}}[:0]}, api.OK)
			set(api.Node{Kids: []api.Node{num(1)}}, wrongForm)
			set(api.Node{Kind: 1}, wrongForm)
			set(api.Node{Kind: 255}, wrongForm)
			set(api.Node{Oper: 1}, wrongForm)
			set(api.Node{Type: 1}, wrongForm)
			set(api.Node{N: 1}, wrongForm)
			set(api.Node{N: least}, wrongForm)
			set(api.Node{Field: 1}, wrongForm)
			set(api.Node{Name: "a"}, wrongForm)
			set(num(0), wrongForm)
			set(all(), wrongForm)
			// What must not stand there is no less out of form for being deep.
			set(deep, wrongForm)
		}
	}
}

func TestNamesOfDeeds(t *testing.T) {
	for i, d := range deeds() {
		for _, name := range append(wrongNames, "a", "o", "zz") {
			x := d
			x.Name = name
			right := !slices.Contains(wrongNames, name)
			switch d.Kind {
			case api.DoHalt:
				right = name == ""
			case api.DoSubmit:
				right = right || name == ""
			}
			want := wrongForm
			if right {
				want = api.OK
			}
			if no := tree.Check(doing(x)); no != want {
				t.Errorf("%d called %q: %d; want %d", i, name, no, want)
			}
		}
	}
}

func TestPlacesOfStrategies(t *testing.T) {
	for _, at := range []int{least, -1, 0, 1, greatest} {
		s := copied(whole())
		setPlaces(elem(&s), at)
		expectCheck(t, s, api.OK)
		if !tree.Same(s, whole()) {
			t.Errorf("with places %d it is another one", at)
		}
	}
}
