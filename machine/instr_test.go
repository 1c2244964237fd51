package machine_test

import (
	"fmt"
	"strconv"
	"strings"
	"testing"

	"tripwire/api"
)

// What each kind of instruction lays and takes off, and where it goes on.

func TestConstants(t *testing.T) {
	for _, n := range edges() {
		expectRuns(t, num(n), begun(), seen(), result{n, 1, api.OK})
		expectRuns(t, num(n), mode(1, 0, 0, 0), api.Snap{}, result{n, 1, api.OK})
	}
	// Each of as many as may be.
	x := asking("const 0")
	for k := range int64(1024) {
		x.Consts = append(x.Consts[:k:k], k*k-5)
	}
	for k := range 1024 {
		x.Code[0].A = k
		expectValue(t, x, span(0, 1), begun(), api.Snap{}, result{int64(k*k - 5), 1, api.OK})
	}
}

// A register's number is the mode's, not what the table begins with.
func TestRegisters(t *testing.T) {
	for r := range 3 {
		text := "reg " + strconv.Itoa(r)
		expectRuns(t, text, begun(), seen(), result{begun().Regs[r], 1, api.OK})
		for _, n := range edges() {
			m := mode(0, 100, 101, 102)
			m.Regs[r] = n
			expectRuns(t, text, m, seen(), result{n, 1, api.OK})
		}
	}
	x := asking("reg 0")
	x.Regs = times(12, int64(-1))
	m := mode(0)
	for r := range 12 {
		m.Regs = append(m.Regs, int64(1000+r))
	}
	for r := range 12 {
		x.Code[0].A, x.States[0][0].Regs = r, 1<<r
		expectValue(t, x, span(0, 1), m, api.Snap{}, result{int64(1000 + r), 1, api.OK})
	}
}

// snapWith is seen with another number in one field.
func snapWith(f int, n int64) api.Snap {
	w := seen()
	*[]*int64{nil, &w.Bid, &w.Ask, &w.Last, &w.Volume, &w.Now, &w.Open}[f] = n
	return w
}

func mostOf(f int) int64 {
	return []int64{0, api.MaxPrice, api.MaxPrice, api.MaxPrice, api.MaxVolume, api.MaxTime, api.MaxOpen}[f]
}

// Bid, ask and last are absent where they are 0; the others may be 0. Each field is its own number, whatever the others are.
func TestFields(t *testing.T) {
	for f := 1; f <= 6; f++ {
		text := "field " + strconv.Itoa(f)
		for _, n := range []int64{1, 2, 999, mostOf(f) - 1, mostOf(f)} {
			expectRuns(t, text, begun(), snapWith(f, n), result{n, 1, api.OK})
		}
		want := result{0, 1, api.OK}
		if f <= 3 {
			want.no = absent
		}
		expectRuns(t, text, begun(), snapWith(f, 0), want)
		expectRuns(t, text, begun(), api.Snap{}, want)
		// What another field lacks does not matter.
		for other := 1; other <= 6; other++ {
			if other != f {
				expectRuns(t, text, begun(), snapWith(other, 0), result{[]int64{0, 11, 13, 12, 1001, 77, 55}[f], 1, api.OK})
			}
		}
	}
}

func TestHas(t *testing.T) {
	for f := 1; f <= 3; f++ {
		text := "has " + strconv.Itoa(f)
		for _, n := range []int64{1, 2, 256, mostOf(f)} {
			expectRuns(t, text, begun(), snapWith(f, n), result{1, 1, api.OK})
		}
		expectRuns(t, text, begun(), snapWith(f, 0), result{0, 1, api.OK})
		expectRuns(t, text, begun(), api.Snap{}, result{0, 1, api.OK})
		for other := 1; other <= 6; other++ {
			if other != f {
				expectRuns(t, text, begun(), snapWith(other, 0), result{1, 1, api.OK})
			}
		}
	}
}

// Every Oper of every two numbers, as numbers without bounds have it; two registers lay them, and two constants.
func TestOpers(t *testing.T) {
	for o := api.OperNeg; o <= api.OperGe; o++ {
		name := operNames[o]
		for _, a := range edges() {
			if o <= api.OperAbs {
				want := operOf(o, a, a)
				want.steps = 2
				expectRuns(t, "reg 1, "+name, mode(0, 0, a, 0), seen(), want)
				expectRuns(t, row(num(a), name), begun(), api.Snap{}, want)
				// What lies below stays where it is.
				if want.no == api.OK {
					expectRuns(t, row("num 3", num(a), name, "num 0, mul, add"), begun(), api.Snap{}, result{3, 6, api.OK})
				}
				continue
			}
			x := laid([]rule{when("reg 0, reg 2, "+name, set(0, "num 77, reg 0, reg 2, "+name+", num 0, mul, add"))})
			for _, b := range edges() {
				want := operOf(o, a, b)
				want.steps = 3
				expectValue(t, x, span(0, 3), mode(0, a, 0, b), seen(), want)
				if want.no != api.OK {
					expectValue(t, x, span(3, 10), mode(0, a, 0, b), seen(), result{0, 4, want.no})
				} else {
					expectValue(t, x, span(3, 10), mode(0, a, 0, b), seen(), result{77, 7, api.OK})
				}
			}
		}
	}
}

// What OperNot lays is 1 of 0, and 0 of all else.
func TestNot(t *testing.T) {
	for _, n := range edges() {
		want := int64(0)
		if n == 0 {
			want = 1
		}
		expectRuns(t, row(num(n), "not"), begun(), seen(), result{want, 2, api.OK})
		expectRuns(t, row(num(n), "not, not"), begun(), seen(), result{1 - want, 3, api.OK})
	}
}

// The faults of each Oper, by the numbers next to them.
func TestFaultsOfOpers(t *testing.T) {
	for text, want := range map[string]result{
		"num -9223372036854775808, neg":                           {0, 2, over},
		"num -9223372036854775807, neg":                           {greatest, 2, api.OK},
		"num 9223372036854775807, neg":                            {-greatest, 2, api.OK},
		"num -9223372036854775808, abs":                           {0, 2, over},
		"num -9223372036854775807, abs":                           {greatest, 2, api.OK},
		"num 9223372036854775807, abs":                            {greatest, 2, api.OK},
		"num 9223372036854775807, num 1, add":                     {0, 3, over},
		"num 9223372036854775806, num 1, add":                     {greatest, 3, api.OK},
		"num -9223372036854775808, num -1, add":                   {0, 3, over},
		"num -9223372036854775808, num 1, sub":                    {0, 3, over},
		"num -9223372036854775807, num 1, sub":                    {least, 3, api.OK},
		"num 0, num -9223372036854775808, sub":                    {0, 3, over},
		"num -1, num -9223372036854775808, sub":                   {greatest, 3, api.OK},
		"num 3037000500, num 3037000500, mul":                     {0, 3, over},
		"num 3037000499, num 3037000499, mul":                     {9223372030926249001, 3, api.OK},
		"num -9223372036854775808, num -1, mul":                   {0, 3, over},
		"num -9223372036854775808, num -1, div":                   {0, 3, over},
		"num -9223372036854775808, num 1, div":                    {least, 3, api.OK},
		"num -9223372036854775808, num -1, mod":                   {0, 3, api.OK},
		"num 1, num 0, div":                                       {0, 3, zero},
		"num 0, num 0, div":                                       {0, 3, zero},
		"num -9223372036854775808, num 0, div":                    {0, 3, zero},
		"num 1, num 0, mod":                                       {0, 3, zero},
		"num 0, num 0, mod":                                       {0, 3, zero},
		"num 0, num 5, div":                                       {0, 3, api.OK},
		"num 0, num 5, mod":                                       {0, 3, api.OK},
		"num -7, num 2, div":                                      {-3, 3, api.OK},
		"num -7, num 2, mod":                                      {-1, 3, api.OK},
		"num 7, num -2, mod":                                      {1, 3, api.OK},
		"num -9223372036854775808, num 9223372036854775807, min":  {least, 3, api.OK},
		"num 9223372036854775807, num -9223372036854775808, max":  {greatest, 3, api.OK},
		"num -9223372036854775808, num 9223372036854775807, lt":   {1, 3, api.OK},
		"num 9223372036854775807, num -9223372036854775808, sub":  {0, 3, over},
		"num 9223372036854775807, num 1, add, num 1, sub":         {0, 3, over},
		"num 4611686018427387904, num 2, mul, num 2, div":         {0, 3, over},
		"num 1, field 1, field 2, add, add":                       {0, 2, absent},
		"num 1, num 0, div, num 1, num 0, mod, add":               {0, 3, zero},
		"num 1, num 0, mul, num 1, num 0, mod, add":               {0, 6, zero},
		"num -9223372036854775808, neg, num 1, num 0, div, add":   {0, 2, over},
		"num -9223372036854775808, num 1, num 0, div, add, neg":   {0, 4, zero},
		"num 5, num -9223372036854775808, abs, field 1, add, add": {0, 3, over},
	} {
		expectRuns(t, text, begun(), api.Snap{}, want)
	}
}

// If 0 lies on top, an and goes on at A with it; else it takes that off.
func TestAnd(t *testing.T) {
	for _, n := range edges() {
		m := mode(0, n, 8, 9)
		if n == 0 {
			expectRuns(t, "reg 0, and 3, num 4", m, seen(), result{0, 2, api.OK})
			expectRuns(t, "reg 0, and 4, num 4, neg", m, seen(), result{0, 2, api.OK})
			expectRuns(t, "reg 0, and 3, num 4, not", m, seen(), result{1, 3, api.OK})
			expectRuns(t, "reg 1, reg 0, and 4, num 4, sub", m, seen(), result{8, 4, api.OK})
			continue
		}
		expectRuns(t, "reg 0, and 3, num 4", m, seen(), result{4, 3, api.OK})
		expectRuns(t, "reg 0, and 4, num 4, neg", m, seen(), result{-4, 4, api.OK})
		expectRuns(t, "reg 0, and 3, num 4, not", m, seen(), result{0, 4, api.OK})
		expectRuns(t, "reg 1, reg 0, and 4, num 4, sub", m, seen(), result{4, 5, api.OK})
	}
}

// If anything but 0 lies on top, an or goes on at A with it, whatever it is; else it takes that off.
func TestOr(t *testing.T) {
	for _, n := range edges() {
		m := mode(0, n, 0, 9)
		if n != 0 {
			expectRuns(t, "reg 0, or 3, num 4", m, seen(), result{n, 2, api.OK})
			expectRuns(t, "reg 0, or 4, num 4, neg", m, seen(), result{n, 2, api.OK})
			expectRuns(t, "reg 0, or 3, num 4, not", m, seen(), result{0, 3, api.OK})
			expectRuns(t, "reg 1, reg 0, or 4, num 4, add", m, seen(), result{n, 4, api.OK})
			continue
		}
		expectRuns(t, "reg 0, or 3, num 4", m, seen(), result{4, 3, api.OK})
		expectRuns(t, "reg 0, or 4, num 4, neg", m, seen(), result{-4, 4, api.OK})
		expectRuns(t, "reg 0, or 3, num 4, not", m, seen(), result{0, 4, api.OK})
		expectRuns(t, "reg 1, reg 0, or 4, num 4, add", m, seen(), result{4, 5, api.OK})
	}
}

// An else takes one off; if it was 0, it goes on at A.
func TestElse(t *testing.T) {
	for _, n := range edges() {
		m := mode(0, n, 8, 9)
		if n == 0 {
			expectRuns(t, "reg 0, else 4, num 1, jump 5, num 2", m, seen(), result{2, 3, api.OK})
			expectRuns(t, "reg 1, reg 0, else 4, neg", m, seen(), result{8, 3, api.OK})
			expectRuns(t, "reg 1, reg 0, else 6, num 1, sub, neg", m, seen(), result{8, 3, api.OK})
			expectRuns(t, "reg 1, reg 0, else 5, num 1, sub, neg", m, seen(), result{-8, 4, api.OK})
			continue
		}
		expectRuns(t, "reg 0, else 4, num 1, jump 5, num 2", m, seen(), result{1, 4, api.OK})
		expectRuns(t, "reg 1, reg 0, else 4, neg", m, seen(), result{-8, 4, api.OK})
		expectRuns(t, "reg 1, reg 0, else 6, num 1, sub, neg", m, seen(), result{-7, 6, api.OK})
		expectRuns(t, "reg 1, reg 0, else 5, num 1, sub, neg", m, seen(), result{-7, 6, api.OK})
	}
}

// Jumps to the next place are steps like others; an else to the next place, and to the span's To, only takes off.
func TestJumps(t *testing.T) {
	expectRuns(t, "jump 1, num 5", begun(), seen(), result{5, 2, api.OK})
	expectRuns(t, "num 5, jump 2", begun(), seen(), result{5, 2, api.OK})
	expectRuns(t, "num 5, jump 2, jump 3, jump 4, neg", begun(), seen(), result{-5, 5, api.OK})
	for n := range int64(3) {
		m := mode(0, n, 8, 9)
		expectRuns(t, "reg 1, reg 0, else 3", m, seen(), result{8, 3, api.OK})
		expectRuns(t, "reg 1, reg 0, else 3, neg", m, seen(), result{-8, 4, api.OK})
		expectRuns(t, "reg 0, else 2, num 6", m, seen(), result{6, 3, api.OK})
	}
	// Over what other ways come to; and to To from both ways.
	for n, want := range []result{{3, 4, api.OK}, {-2, 5, api.OK}} {
		expectRuns(t, "reg 0, else 5, num 2, neg, jump 7, num 3, jump 7", mode(0, int64(n), 0, 0), seen(), want)
	}
	// To a jump, and through it.
	expectRuns(t, "num 0, and 5, num 1, and 5, num 7, jump 6", begun(), seen(), result{0, 3, api.OK})
	expectRuns(t, "num 3, or 4, num 2, jump 5, jump 5, neg", begun(), seen(), result{-3, 4, api.OK})
}

// Nested ands, ors and elses, with all of what they ask for: whatever three registers say.
func TestJumpsWithinOthers(t *testing.T) {
	and := func(a, b int64) int64 { return map[bool]int64{true: 0, false: b}[a == 0] }
	or := func(a, b int64) int64 { return map[bool]int64{true: b, false: a}[a == 0] }
	not := func(a int64) int64 { return map[bool]int64{true: 1, false: 0}[a == 0] }
	cond := func(a, b, c int64) int64 { return map[bool]int64{true: c, false: b}[a == 0] }
	for text, of := range map[string]func(a, b, c int64) int64{
		"reg 0, and 3, reg 1, and 5, reg 2":                                 func(a, b, c int64) int64 { return and(and(a, b), c) },
		"reg 0, and 5, reg 1, and 5, reg 2":                                 func(a, b, c int64) int64 { return and(a, and(b, c)) },
		"reg 0, or 3, reg 1, or 5, reg 2":                                   func(a, b, c int64) int64 { return or(or(a, b), c) },
		"reg 0, or 5, reg 1, or 5, reg 2":                                   func(a, b, c int64) int64 { return or(a, or(b, c)) },
		"reg 0, and 3, reg 1, or 5, reg 2":                                  func(a, b, c int64) int64 { return or(and(a, b), c) },
		"reg 0, or 3, reg 1, and 5, reg 2":                                  func(a, b, c int64) int64 { return and(or(a, b), c) },
		"reg 0, or 5, reg 1, and 5, reg 2":                                  func(a, b, c int64) int64 { return or(a, and(b, c)) },
		"reg 0, and 5, reg 1, or 5, reg 2":                                  func(a, b, c int64) int64 { return and(a, or(b, c)) },
		"reg 0, reg 1, else 5, reg 2, add":                                  func(a, b, c int64) int64 { return cond(b, a+c, a) },
		"reg 0, else 6, reg 1, and 5, reg 2, jump 7, reg 2":                 func(a, b, c int64) int64 { return cond(a, and(b, c), c) },
		"reg 0, and 3, reg 1, else 6, num 5, jump 7, num 6":                 func(a, b, c int64) int64 { return cond(and(a, b), 5, 6) },
		"reg 0, not, and 8, reg 1, not, or 8, reg 2, not":                   func(a, b, c int64) int64 { return and(not(a), or(not(b), not(c))) },
		"reg 0, else 4, reg 1, jump 5, reg 2, else 8, num 8, jump 9, num 9": func(a, b, c int64) int64 { return cond(cond(a, b, c), 8, 9) },
		"num 9, reg 0, else 5, reg 1, jump 6, reg 2, or 8, num 3, sub":      func(a, b, c int64) int64 { return 9 - or(cond(a, b, c), 3) },
	} {
		x := asking(text)
		for all := range int64(27) {
			m := mode(0, all%3-1, all/3%3-1, all/9-1)
			want := of(m.Regs[0], m.Regs[1], m.Regs[2])
			r := modelRun(x, span(0, len(x.Code)), m.Regs, seen())
			if r.n != want {
				t.Errorf("%q of %v is %d by the model; want %d", text, m, r.n, want)
			}
			expectRuns(t, text, m, seen(), r)
		}
	}
}

// As much as may lie on the stack, up to 64, and all of it taken off again, in the order in which it lies there.
func TestTheGreatestStack(t *testing.T) {
	for _, high := range []int{1, 2, 3, 32, 63, 64} {
		var all []string
		sum, difference := int64(0), int64(0)
		for k := range high {
			all = append(all, num(int64(k*k+1)))
			sum += int64(k*k + 1)
		}
		for k := high - 1; k >= 0; k-- {
			// The last ones are taken off first: 1 - (2 - (5 - ..)).
			difference = int64(k*k+1) - difference
		}
		add, sub := strings.Repeat(", add", high-1), strings.Repeat(", sub", high-1)
		lays := strings.Join(all, ", ")
		steps := 2*high - 1
		expectRuns(t, lays+add, begun(), api.Snap{}, result{sum, steps, api.OK})
		expectRuns(t, lays+sub, begun(), api.Snap{}, result{difference, steps, api.OK})
		expectRuns(t, lays+", neg, neg"+sub, begun(), api.Snap{}, result{difference, steps + 2, api.OK})
		// On top of it: what falls away by an else, and what is left by an or.
		expectRuns(t, fmt.Sprintf("%s, or %d, num 9%s", lays, high+2, sub), begun(), api.Snap{}, result{difference, steps + 1, api.OK})
	}
	full := "num 1" + strings.Repeat(", num 1", 63)
	for _, lays := range []string{"num 1", "field 4", "has 1", "reg 0"} {
		// The sixty-fourth by each instruction that lays one.
		text := "num 1" + strings.Repeat(", num 1", 62) + ", " + lays + strings.Repeat(", mul", 63)
		n := map[string]int64{"num 1": 1, "field 4": 1001, "has 1": 1, "reg 0": 5}[lays]
		expectRuns(t, text, begun(), seen(), result{n, 127, api.OK})
		x := asking(full + ", " + lays + strings.Repeat(", add", 64))
		expectNoValue(t, x, span(0, len(x.Code)), begun(), seen(), wrongStack)
		expectNoTurn(t, x, begun(), seen(), wrongStack)
	}
}

// A span begins with an empty stack, whatever the one ahead of it, or a fault, has left there.
func TestStacksBeginEmpty(t *testing.T) {
	high := "num 3" + strings.Repeat(", num 3", 63) + strings.Repeat(", min", 63)
	x := doing(set(0, high), set(1, high), market(0, "num 1", high), set(2, high))
	expectFires(t, x, begun(), api.Snap{}, fires(1+3*127+1+127, 0, api.Action{Act: api.ActSubmit, Kind: api.Market, Side: api.Buy, Qty: 3}), mode(0, 3, 3, 3))
	rules := times(11, when("num 7, num 0, mul", halt()))
	x = laid(append(rules, when("num 0, not", set(0, "num 4"))))
	expectFires(t, x, begun(), api.Snap{}, fires(3*11+2+1, 11), mode(0, 4, -6, 7))
}

// As long a span as may be.
func TestTheLongestSpan(t *testing.T) {
	x := asking("num 1" + strings.Repeat(", neg", 4095))
	if len(x.Code) != api.MaxCode {
		t.Fatal(len(x.Code))
	}
	expectValue(t, x, span(0, 4096), begun(), api.Snap{}, result{-1, 4096, api.OK})
	expectStays(t, x, begun(), api.Snap{}, halts(4096, 0))
	x = asking("num 0, and 4096, num 1" + strings.Repeat(", neg", 4093))
	expectStays(t, x, begun(), api.Snap{}, nothing(2))
	x = asking("num 1" + strings.Repeat(", neg", 4096))
	expectNoTurn(t, x, begun(), api.Snap{}, wrongForm)
}
