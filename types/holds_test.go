package types_test

import (
	"errors"
	"reflect"
	"slices"
	"testing"

	"tripwire/api"
	"tripwire/tree"
	"tripwire/types"
)

// exprsOf are all expressions of a strategy: what registers begin with, what rules ask, what their things have.
func exprsOf(s api.Strategy) []api.Node {
	var all []api.Node
	for _, r := range s.Regs {
		all = append(all, r.Init)
	}
	for _, x := range s.States {
		for _, r := range x.Rules {
			all = append(all, r.When)
			for _, d := range r.Dos {
				for _, n := range []api.Node{d.Side, d.Qty, d.Price, d.Value} {
					if n.Kind != 0 {
						all = append(all, n)
					}
				}
			}
		}
	}
	return all
}

// drawnStrategies are many, some of which fit.
func drawnStrategies(from uint64, count int) []api.Strategy {
	var all []api.Strategy
	for k := range count {
		d := drawer{below: draw(from + uint64(k)), slips: []int{0, 300, 60, 20}[k%4]}
		s := d.strategy()
		if k%7 == 0 {
			s = d.strewn(s)
		}
		all = append(all, s)
	}
	return all
}

// What Check and Of say is what the model says, of strategies that fit and of those that do not.
func TestDrawnStrategies(t *testing.T) {
	reached := map[string]int{}
	for _, s := range drawnStrategies(100, 6000) {
		err := expectCheckAsModel(t, s)
		reached[kindOf(err)]++
		for _, n := range exprsOf(s) {
			_, err := expectOfAsModel(t, s, n)
			reached[kindOf(err)]++
		}
	}
	for _, kind := range []string{"fine", "Check 150", "Check 151", "Check 152", "Check 153", "Check Of 151", "Check Of 152", "Check 120", "Of 151", "Of 152", "Of 120"} {
		if reached[kind] < 20 {
			t.Errorf("%s was reached %d times; all: %v", kind, reached[kind], reached)
		}
	}
}

// kindOf is the calls and the number of an error.
func kindOf(err error) string {
	var f *api.Failure
	var no api.Errno
	switch {
	case err == nil:
		return "fine"
	case errors.As(err, &f):
		return f.Call + " " + kindOf(f.Err)
	case errors.As(err, &no):
		return no.Error()[len("error "):]
	}
	return "other"
}

func TestDrawnExpressions(t *testing.T) {
	reached := map[api.Type]int{}
	wrong := map[api.Errno]int{}
	for k := range 6000 {
		d := drawer{below: draw(uint64(7000 + k)), slips: []int{0, 40, 10}[k%3]}
		var s api.Strategy
		for range d.below(20) {
			s.Regs = append(s.Regs, api.Reg{Name: d.name(), Type: api.Type(d.below(8))})
		}
		d.regs = s.Regs
		n := numbered(d.expr(d.typed(), 1+d.below(40)))
		to, err := expectOfAsModel(t, s, n)
		var no api.Errno
		if errors.As(err, &no) {
			wrong[no]++
		} else {
			reached[to]++
		}
	}
	for to := tInt; to <= tSide; to++ {
		if reached[to] < 50 {
			t.Errorf("type %d was reached %d times", to, reached[to])
		}
	}
	for _, no := range []api.Errno{none, fit} {
		if wrong[no] < 50 {
			t.Errorf("error %d was reached %d times", no, wrong[no])
		}
	}
}

// What Check takes has types: Of of each of its expressions answers one, and that of its place.
func TestWhatCheckTakesHasTypes(t *testing.T) {
	taken, seen := 0, 0
	for _, s := range drawnStrategies(20000, 3000) {
		if types.Check(s) != nil {
			continue
		}
		taken++
		for _, n := range exprsOf(s) {
			for x := range tree.All(n) {
				seen++
				if to, err := types.Of(s, x); to < tInt || to > tSide || err != nil {
					t.Errorf("%s in %s is %d, %v", short(x), short(s), to, err)
				}
			}
		}
		for _, r := range s.Regs {
			expectType(t, s, r.Init, r.Type)
			expectType(t, s, reg(r.Name), r.Type)
		}
		for _, x := range s.States {
			for _, r := range x.Rules {
				expectType(t, s, r.When, tBool)
			}
		}
	}
	if taken < 500 || seen < 20000 {
		t.Errorf("%d strategies were taken, %d expressions seen", taken, seen)
	}
}

// An expression's type is that of the same expression in another strategy with the same registers.
func TestOtherStrategiesWithTheSameRegisters(t *testing.T) {
	d := drawer{below: draw(5), slips: 30}
	for _, s := range drawnStrategies(30000, 600) {
		other := d.strategy()
		other.Regs = copied(s).Regs
		bare := api.Strategy{Regs: copied(s).Regs}
		for k := range bare.Regs {
			bare.Regs[k].Init, bare.Regs[k].At = api.Node{}, 0
		}
		for _, n := range exprsOf(s) {
			to, err := types.Of(s, n)
			for _, x := range []api.Strategy{other, bare, {Name: "!", Regs: s.Regs}} {
				if to2, err2 := types.Of(x, n); to2 != to || !reflect.DeepEqual(err2, err) {
					t.Errorf("%s is %d, %s; in another strategy %d, %s", short(n), to, told(err), to2, told(err2))
				}
			}
			// The same but for places: the same type and the same number.
			to2, err2 := types.Of(s, tree.BareExpr(n))
			if to2 != to || kindOf(err2) != kindOf(err) {
				t.Errorf("%s is %d, %s; without places %d, %s", short(n), to, told(err), to2, told(err2))
			}
		}
		if is, other := types.Check(s), types.Check(tree.Bare(s)); kindOf(is) != kindOf(other) {
			t.Errorf("%s; without places %s", told(is), told(other))
		}
	}
}

// renamed is a strategy in which each register's name is another one, everywhere, also where no register has it.
func renamed(s api.Strategy, to func(string) string) api.Strategy {
	out := copied(s)
	for k := range out.Regs {
		out.Regs[k].Name = to(out.Regs[k].Name)
	}
	for k := range out.States {
		for _, r := range out.States[k].Rules {
			for e := range r.Dos {
				if r.Dos[e].Kind == api.DoSet {
					r.Dos[e].Name = to(r.Dos[e].Name)
				}
			}
		}
	}
	renameNodes(elem(&out), to)
	return out
}

// renameNodes renames the registers in all nodes below.
func renameNodes(v reflect.Value, to func(string) string) {
	switch v.Kind() {
	case reflect.Struct:
		if n, is := v.Addr().Interface().(*api.Node); is && n.Kind == api.NodeReg {
			n.Name = to(n.Name)
		}
		for k := range v.NumField() {
			renameNodes(v.Field(k), to)
		}
	case reflect.Slice:
		for k := range v.Len() {
			renameNodes(v.Index(k), to)
		}
	}
}

// NAMES DO NOT MATTER: with each register's name another one, everywhere, the types and errors are the same.
func TestNamesDoNotMatter(t *testing.T) {
	turn := func(name string) string { return "r_" + string(name[0]) + string(rune('a'+len(name))) }
	swap := func(name string) string {
		if to, is := map[string]string{"a": "lim", "lim": "bids", "bids": "a", "q": "p", "p": "q"}[name]; is {
			return to
		}
		return name
	}
	wrong := 0
	for _, s := range drawnStrategies(40000, 2000) {
		if tree.Check(s) != api.OK {
			continue
		}
		for _, to := range []func(string) string{turn, swap} {
			x := renamed(s, to)
			if is, other := types.Check(s), types.Check(x); !reflect.DeepEqual(is, other) {
				t.Errorf("%s; with other names %s: %s", told(is), told(other), short(s))
			} else if is != nil {
				wrong++
			}
			nodes, others := exprsOf(s), exprsOf(x)
			for k, n := range nodes {
				is, err := types.Of(s, n)
				if is2, err2 := types.Of(x, others[k]); is2 != is || !reflect.DeepEqual(err2, err) {
					t.Errorf("%s is %d, %s; with other names %d, %s", short(n), is, told(err), is2, told(err2))
				}
			}
		}
	}
	if wrong < 200 {
		t.Errorf("only %d were wrong", wrong)
	}
}

// The names of slots and states do not matter either.
func TestNamesOfSlotsAndStatesDoNotMatter(t *testing.T) {
	for _, s := range drawnStrategies(50000, 800) {
		if tree.Check(s) != api.OK {
			continue
		}
		x := copied(s)
		to := func(name *string) {
			if *name != "" {
				*name = "k" + (*name)[:1] + string(rune('a'+len(*name)))
			}
		}
		for k := range x.Slots {
			to(&x.Slots[k].Name)
		}
		for k := range x.States {
			to(&x.States[k].Name)
			for _, r := range x.States[k].Rules {
				for e := range r.Dos {
					if r.Dos[e].Kind != api.DoSet {
						to(&r.Dos[e].Name)
					}
				}
			}
		}
		to(&x.Name)
		if is, other := types.Check(s), types.Check(x); !reflect.DeepEqual(is, other) {
			t.Errorf("%s; with other names %s: %s", told(is), told(other), short(s))
		}
	}
}

// A NodeCond has its second kid's type, a comparison TypeBool, whatever is below.
func TestCondsAndComparisons(t *testing.T) {
	comparisons := []api.Oper{api.OperEq, api.OperNe, api.OperLt, api.OperLe, api.OperGt, api.OperGe}
	conds, compared := 0, 0
	for k := range 3000 {
		d := drawer{below: draw(uint64(60000 + k)), slips: []int{0, 60}[k%2]}
		var s api.Strategy
		for range 8 {
			s.Regs = append(s.Regs, api.Reg{Name: d.name(), Type: api.Type(d.below(9))})
		}
		d.regs = s.Regs
		for n := range tree.All(d.expr(d.typed(), 30)) {
			is, err := types.Of(s, n)
			if err != nil {
				continue
			}
			if n.Kind == api.NodeCond {
				conds++
				expectType(t, s, n.Kids[1], is)
				expectType(t, s, n.Kids[2], is)
				expectType(t, s, n.Kids[0], tBool)
			}
			if n.Kind == api.NodeBinary && slices.Contains(comparisons, n.Oper) {
				compared++
				if is != tBool {
					t.Errorf("%s is %d", short(n), is)
				}
			}
		}
	}
	if conds < 500 || compared < 500 {
		t.Errorf("%d conditions, %d comparisons", conds, compared)
	}
}
