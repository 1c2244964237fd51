package mean_test

import (
	"testing"

	"tripwire/api"
	"tripwire/mean"
	"tripwire/tree"
	"tripwire/types"
)

// fitting are drawn strategies that may be.
func fitting(from uint64, count int) []api.Strategy {
	var all []api.Strategy
	for _, s := range drawnStrategies(from, count) {
		if types.Check(s) == nil {
			all = append(all, s)
		}
	}
	return all
}

// A mode of a strategy is one behind every turn: from the beginning on, and from any, granted or not, whatever comes of it.
func TestAModeIsOneBehindEveryTurn(t *testing.T) {
	turns, changed := 0, 0
	for k, s := range fitting(300000, 2500) {
		d := drawer{below: draw(uint64(k))}
		m, no := mean.Start(s)
		if no != api.OK || !modelIsMode(s, m) {
			t.Fatalf("Start(%s) is %v, %d", short(s), m, no)
		}
		for range 20 {
			_, next, no := mean.Turn(s, m, d.snap(), d.below(3) > 0)
			if no != api.OK || !modelIsMode(s, next) {
				t.Fatalf("behind Turn(%s) with %v the mode is %v, %d", short(s), m, next, no)
			}
			turns++
			if !sameMode(m, next) {
				changed++
			}
			if m = next; d.below(2) == 0 {
				m = d.mode(s)
			}
		}
	}
	if turns < 10000 || changed < 2000 {
		t.Errorf("%d turns, %d of which changed the mode", turns, changed)
	}
}

// What is not granted is as if it had not been, but for what is told: the mode stays, and what comes next is what would have come; a rule without an action does not hang on the grant.
func TestWhatIsNotGranted(t *testing.T) {
	refused, others := 0, 0
	for k, s := range fitting(400000, 1500) {
		d := drawer{below: draw(uint64(k))}
		for range 10 {
			m, w, later := d.mode(s), d.snap(), d.snap()
			yes, after, no := mean.Turn(s, m, w, true)
			not, stays, no2 := mean.Turn(s, m, w, false)
			if no != api.OK || no2 != api.OK {
				t.Fatal(no, no2)
			}
			if len(yes.Actions) == 0 {
				others++
				if !sameFiring(not, yes) || !sameMode(stays, after) {
					t.Errorf("%s hangs on the grant: %+v, %v; %+v, %v", short(s), yes, after, not, stays)
				}
				continue
			}
			refused++
			if !sameFiring(not, isRefused(yes.Rule)) || !sameMode(stays, m) {
				t.Errorf("%s is not refused with %v, %v: %+v, %v", short(s), m, w, not, stays)
			}
			f, next, _ := mean.Turn(s, m, later, true)
			f2, next2, _ := mean.Turn(s, stays, later, true)
			if !sameFiring(f, f2) || !sameMode(next, next2) {
				t.Errorf("%s goes on otherwise, when it was refused: %+v, %v; %+v, %v", short(s), f, next, f2, next2)
			}
		}
	}
	if refused < 500 || others < 2000 {
		t.Errorf("%d were refused, %d others", refused, others)
	}
}

// namedIn are the fields and the registers that a state's guards and rules name.
func namedIn(x api.State) (api.Mask, map[string]int) {
	var fields api.Mask
	regs := map[string]int{}
	for _, n := range exprsOf(api.Strategy{States: []api.State{x}}) {
		f, names := tree.Reads(n)
		fields |= f
		for _, name := range names {
			regs[name]++
		}
	}
	for _, r := range x.Rules {
		for _, d := range r.Dos {
			if d.Kind == api.DoSet {
				regs[d.Name]++
			}
		}
	}
	return fields, regs
}

// otherFields is a snapshot with other numbers in all fields that are not among these.
func otherFields(w, other api.Snap, named api.Mask) api.Snap {
	for f, to := range map[api.Field][2]*int64{
		api.FieldBid: {&w.Bid, &other.Bid}, api.FieldAsk: {&w.Ask, &other.Ask}, api.FieldLast: {&w.Last, &other.Last},
		api.FieldVolume: {&w.Volume, &other.Volume}, api.FieldNow: {&w.Now, &other.Now}, api.FieldOpen: {&w.Open, &other.Open},
	} {
		if named&(1<<f) == 0 {
			*to[0] = *to[1]
		}
	}
	return w
}

// Fields and registers that no guard and no rule of the state names change nothing: the firing is the same, and so is the mode behind it, but for these registers, which stay as they were.
func TestWhatIsNotNamedChangesNothing(t *testing.T) {
	fields, registers := 0, 0
	for k, s := range fitting(500000, 2000) {
		d := drawer{below: draw(uint64(k))}
		for range 8 {
			m, w, granted := d.mode(s), d.snap(), d.below(2) == 0
			named, regs := namedIn(s.States[m.State])
			m2, w2 := d.mode(s), otherFields(w, d.snap(), named)
			m2.State = m.State
			for e, r := range s.Regs {
				if regs[r.Name] > 0 {
					m2.Regs[e] = m.Regs[e]
				}
			}
			f, next, no := mean.Turn(s, m, w, granted)
			f2, next2, no2 := mean.Turn(s, m2, w2, granted)
			if no != api.OK || no2 != api.OK || !sameFiring(f, f2) || next.State != next2.State {
				t.Errorf("%s: %+v, %v, %d; with other numbers %+v, %v, %d", short(s), f, next, no, f2, next2, no2)
				continue
			}
			for e, r := range s.Regs {
				switch {
				case regs[r.Name] > 0 && next.Regs[e] != next2.Regs[e]:
					t.Errorf("%s: %s is %d, and %d", short(s), r.Name, next.Regs[e], next2.Regs[e])
				case regs[r.Name] == 0 && (next.Regs[e] != m.Regs[e] || next2.Regs[e] != m2.Regs[e]):
					t.Errorf("%s: %s, which nothing names, has changed", short(s), r.Name)
				}
			}
			if w != w2 && f.Rule >= 0 {
				fields++
			}
			if !sameMode(m, m2) && f.Rule >= 0 {
				registers++
			}
		}
	}
	if fields < 1000 || registers < 500 {
		t.Errorf("%d times other fields, %d times other registers", fields, registers)
	}
}

// The same of an expression: what it does not read changes nothing of its value, nor does anything of the strategy but its registers.
func TestWhatAnExpressionDoesNotRead(t *testing.T) {
	seen := 0
	for k, s := range fitting(600000, 600) {
		d := drawer{below: draw(uint64(k)), regs: s.Regs}
		for range 5 {
			n, m, w := d.expr(d.typed(), 1+d.below(12)), d.mode(s), d.snap()
			named, names := tree.Reads(n)
			m2, w2 := d.mode(s), otherFields(w, d.snap(), named)
			for e, r := range s.Regs {
				for _, name := range names {
					if r.Name == name {
						m2.Regs[e] = m.Regs[e]
					}
				}
			}
			bare := smallest()
			bare.Regs = s.Regs
			is, no := mean.Value(s, n, m, w)
			if is2, no2 := mean.Value(s, n, m2, w2); is != is2 || no != no2 {
				t.Errorf("%s is %d, %d; with other numbers %d, %d", short(n), is, no, is2, no2)
			}
			if is2, no2 := mean.Value(bare, n, mode(0, m.Regs...), w); is != is2 || no != no2 {
				t.Errorf("%s is %d, %d; in another strategy %d, %d", short(n), is, no, is2, no2)
			}
			if no == api.OK {
				seen++
			}
		}
	}
	if seen < 1000 {
		t.Errorf("only %d had values", seen)
	}
}

// What a turn does is what Value says of its expressions: guards in order, and what the one rule lets out.
func TestTurnsAreOfValues(t *testing.T) {
	fired := 0
	for k, s := range fitting(700000, 800) {
		d := drawer{below: draw(uint64(k))}
		for range 5 {
			m, w := d.mode(s), d.snap()
			f, _, _ := mean.Turn(s, m, w, true)
			for e, r := range s.States[m.State].Rules {
				is, no := mean.Value(s, r.When, m, w)
				if no != api.OK {
					if f.Code != no || f.Status != api.Faulted {
						t.Errorf("a guard faults by %d; %+v", no, f)
					}
					break
				}
				if is == 1 {
					fired++
					if f.Rule != e && f.Status != api.Faulted {
						t.Errorf("the guard %d holds; %+v", e, f)
					}
					break
				}
				if f.Rule == e {
					t.Errorf("the guard %d does not hold; %+v", e, f)
				}
			}
		}
	}
	if fired < 500 {
		t.Errorf("only %d fired", fired)
	}
}
