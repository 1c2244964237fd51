package eval_test

import (
	"fmt"
	"strings"
	"testing"

	"tripwire/api"
)

// What is known of guards, and which registers make it be forgotten.

// A guard that is run is clean then, with its value, any, or its fault; those behind the one that holds or faults are not run.
func TestWhatIsRunIsKnown(t *testing.T) {
	for _, n := range edges() {
		x := laid([]rule{when("num 0", halt()), when("reg 0", set(1, "num 4")), when("num 1", set(1, "num 3"))})
		x.Regs[0] = n
		r := started(t, x, api.Snap{})
		if n == 0 {
			expectTurn(t, r, true, fires(4, 2))
			expectKnows(t, r, "0 0 1")
			continue
		}
		expectTurn(t, r, true, fires(3, 1))
		expectKnows(t, r, fmt.Sprintf("0 %d -", n))
		expectTurn(t, r, true, fires(1, 1))
	}
	for _, no := range everyFault {
		bad, steps := faulty(no)
		for at := range 4 {
			rules := times(4, when("num 0", halt()))
			rules[at] = when(bad, cancel(1))
			r := started(t, laid(rules, rules), api.Snap{})
			expectTurn(t, r, true, faults(at+steps, no))
			known := strings.Repeat("0 ", at) + fmt.Sprint("!", int(no)) + strings.Repeat(" -", 3-at)
			expectStanding(t, r, standing{begun(), api.Faulted, no, api.Snap{}, known + " | - - - -", at + steps})
			expectTurn(t, r, true, faults(0, no))
			expectStatus(t, r, api.Faulted, no)
		}
	}
}

// A fault that is known is known no more behind Start: it is met again, in as many steps, or not, where something has changed since.
func TestKnownFaults(t *testing.T) {
	r := started(t, laid([]rule{when("num 0", halt()), when("field 1, num 3, gt", cancel(1))}), api.Snap{})
	for n := 1; n < 4; n++ {
		expectTurn(t, r, true, faults(2, absent))
		expectStanding(t, r, standing{begun(), api.Faulted, absent, api.Snap{}, "0 !170", 2 * n})
		// What is fed to one that does not run is not.
		expectFold(t, r, ended, bid(5))
		expectTurn(t, r, true, faults(0, absent), bid(5))
		r.Start()
		expectKnows(t, r, "- -")
	}
	expectTurn(t, r, true, nothing(4), bid(3))
	expectKnows(t, r, "0 0")
	expectTurn(t, r, true, faults(1, absent), bid(0))
	expectKnows(t, r, "0 !170")
}

// regsRead is a guard that is 0 and reads just these registers.
func regsRead(regs int) string {
	text := "num 0"
	for k := range 12 {
		if regs&(1<<k) != 0 {
			text += fmt.Sprintf(", reg %d, num 0, mul, add", k)
		}
	}
	return text
}

// What a firing does to registers, and which of them have other numbers behind it than ahead.
func settingsOfEach() map[int][][]thing {
	return map[int][][]thing{
		0: {
			{set(0, "num 5")}, {set(0, "reg 0")}, {set(1, "num 6, neg")}, {set(0, "num 9"), set(0, "num 5")}, {set(2, "reg 2, num 1, add"), set(2, "reg 2, num 1, sub")},
			{set(0, "reg 1"), set(1, "num 3"), set(0, "num 5"), set(1, "num -6")}, {cancel(1)}, {goTo(0)}, {market(0, "num 1", "reg 0")},
		},
		1: {{set(0, "num 9")}, {set(0, "reg 1")}, {set(0, "num 9"), set(0, "num 8")}, {set(1, "num 4"), set(0, "reg 1"), set(1, "num -6")}, {cancel(1), set(0, "num 0"), goTo(0)}},
		2: {{set(1, "num 6")}, {set(2, "num 9"), set(1, "reg 2"), set(2, "num 7")}, {set(0, "num 5"), set(1, "num 0")}},
		4: {{set(2, "num 9223372036854775807")}, {set(2, "reg 0"), cancel(2)}},
		3: {{set(0, "reg 1"), set(1, "num 5")}, {set(1, "num 1"), set(0, "num 2")}},
		5: {{set(0, "num 7"), set(2, "num 5")}},
		6: {{set(1, "num 7"), set(2, "num -6"), goTo(0)}},
		7: {{set(0, "num 0"), set(1, "num 0"), set(2, "num 0")}, {cancel(1), set(2, "reg 0"), set(0, "reg 1"), set(1, "reg 2")}},
	}
}

// Where a rule fires, of each guard that reads a register with another number than ahead nothing is known; of all others, what was. Where it is refused, nothing is forgotten.
func TestWhatAFiringForgets(t *testing.T) {
	for regs := range 8 {
		text := regsRead(regs)
		steps := len(code(text))
		for changed, all := range settingsOfEach() {
			for _, rows := range all {
				x := laid([]rule{when(text, halt()), when("field 5, num 3, lt", rows...)}, []rule{when("num 1", halt())})
				r := started(t, x, api.Snap{})
				f := r.turn(false)
				if f.Refused {
					expectMode(t, r, begun())
					expectKnows(t, r, "0 1 | -")
					f = r.turn(true)
				}
				if f.Rule != 1 || f.Status != api.Running {
					t.Fatal(f)
				}
				again, known := 0, "0 1 | -"
				if regs&changed != 0 {
					again, known = steps, "- 1 | -"
				}
				expectKnows(t, r, known)
				expectTurn(t, r, true, nothing(again+3), now(3))
				expectKnows(t, r, "0 0 | -")
			}
		}
	}
}

// The same of each of as many registers as there may be, and of guards of another state.
func TestEachRegisterByItself(t *testing.T) {
	for k := range 12 {
		for _, back := range []bool{false, true} {
			rows := []thing{set(k, "num 99")}
			if back {
				rows = append(rows, set((k+1)%12, "num 1"), set(k, "num 1"))
			}
			// The second state's guards know their registers; it goes back to the first one, which sets.
			var readers []rule
			for r := range 11 {
				readers = append(readers, when(fmt.Sprintf("reg %d, num 0, mul", r), halt()))
			}
			readers = append(readers, when("reg 11, num 0, mul, has 1, add", goTo(0)))
			x := laid([]rule{when("has 1, not", goTo(1)), when("has 2", rows...)}, readers)
			x.Regs = times(12, int64(1))
			r := started(t, x, api.Snap{})
			expectTurn(t, r, true, fires(2, 0))
			expectTurn(t, r, true, nothing(11*3+5))
			expectTurn(t, r, true, fires(5, 11), bid(1))
			expectKnows(t, r, "- - | "+strings.Repeat("0 ", 11)+"1")
			known := strings.Fields(strings.Repeat("0 ", 11) + "1")
			next := mode(0, times(12, int64(1))...)
			steps := 4
			if back {
				steps += 2
			} else {
				known[k] = "-"
				next.Regs[k] = 99
			}
			expectTurn(t, r, true, fires(steps, 1), ask(1))
			expectKnows(t, r, "0 1 | "+strings.Join(known, " "))
			expectMode(t, r, next)
		}
	}
}

// A goto forgets nothing by itself: what was known of a state's guards is known when it is come back to, but for what has changed.
func TestStatesAreComeBackTo(t *testing.T) {
	x := laid(
		[]rule{when("field 6, num 5, gt", halt()), when("reg 0, num 100, gt", halt()), when("num 1", goTo(1))},
		[]rule{when("has 1", set(0, "reg 0, num 1, add"), goTo(0)), when("num 1", goTo(0))},
	)
	r := started(t, x, api.Snap{})
	expectTurn(t, r, true, fires(7, 2))
	expectTurn(t, r, true, fires(2, 1))
	for range 3 {
		expectKnows(t, r, "0 0 1 | 0 1")
		expectTurn(t, r, true, fires(0, 2))
		expectMode(t, r, mode(1, 5, -6, 7))
		expectTurn(t, r, true, fires(0, 1))
		expectMode(t, r, begun())
	}
	// A field that only the other state's guard reads; then a register that it changes.
	expectTurn(t, r, true, fires(0, 2), bid(4))
	expectKnows(t, r, "0 0 1 | - 1")
	expectTurn(t, r, true, fires(4, 0))
	expectKnows(t, r, "0 - 1 | 1 1")
	expectTurn(t, r, true, fires(3, 2))
	expectTurn(t, r, true, fires(3, 0), open(5))
	expectKnows(t, r, "- - 1 | 1 1")
	expectTurn(t, r, true, fires(6, 2))
	if n := r.Steps(); n != 7+2+4+3+3+6 {
		t.Errorf("%d steps in all", n)
	}
}

// A guard may read what its own rule sets, fields and registers at once, and what it does not come to.
func TestGuardsOfSeveral(t *testing.T) {
	// Its second part is not come to while nothing is bid: yet it reads the register, and is run again where that has changed.
	x := laid([]rule{when("has 1, and 5, reg 0, num 7, ge", cancel(1)), when("reg 0, num 8, lt", set(0, "reg 0, num 1, add"))})
	r := started(t, x, api.Snap{})
	for n := int64(5); n < 8; n++ {
		expectTurn(t, r, true, fires(2+3+3, 1))
		expectKnows(t, r, "- -")
	}
	expectTurn(t, r, true, nothing(5))
	expectTurn(t, r, true, nothing(0), ask(4), now(8), trade(4, 4), open(4))
	expectTurn(t, r, true, fires(5, 0, api.Action{Act: api.ActCancel, Slot: 1}), bid(1))
	expectTurn(t, r, true, fires(0, 0, api.Action{Act: api.ActCancel, Slot: 1}))
	expectTurn(t, r, true, fires(5, 0, api.Action{Act: api.ActCancel, Slot: 1}), bid(2))
	expectTurn(t, r, true, nothing(2), bid(0))
	// Guards that read nothing are run once.
	r = started(t, laid([]rule{when("num 3, num 3, sub", halt()), when("num 1", set(0, "reg 0, num 1, add"))}), api.Snap{})
	expectTurn(t, r, true, fires(7, 1))
	for n := int64(1); n < 9; n++ {
		expectTurn(t, r, true, fires(3, 1), bid(n), ask(n), trade(n, n), now(n), open(n))
		expectKnows(t, r, "0 1")
	}
	expectMode(t, r, mode(0, 14, -6, 7))
}

// What the rows of a rule come to is not kept: they are run at each firing, and at each that is refused.
func TestRowsAreNotKept(t *testing.T) {
	x := doing(set(0, "num 4, num 4, sub"), market(0, "num 1, abs", "num 7, neg, neg"), amend(2, "num 1", "num 2"))
	r := started(t, x, api.Snap{})
	f := fires(10, 0, api.Action{Act: api.ActSubmit, Kind: api.Market, Side: api.Buy, Qty: 7}, api.Action{Act: api.ActAmend, Qty: 1, Price: 2, Slot: 2})
	expectTurn(t, r, false, isRefused(11, 0))
	for range 4 {
		expectTurn(t, r, false, isRefused(10, 0))
		expectTurn(t, r, true, f)
		expectKnows(t, r, "1 | ")
	}
	if r.Steps() != 91 {
		t.Errorf("%d steps in all", r.Steps())
	}
}
