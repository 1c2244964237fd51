package mean_test

import (
	"math/big"
	"testing"

	"tripwire/api"
)

// Each kind of node and each Oper, in full's registers.

// edges are numbers about nought, about the ends of 64 bits, and about their roots.
func edges() []int64 {
	return []int64{least, least + 1, least / 2, -3037000500, -1000000007, -7, -3, -2, -1, 0, 1, 2, 3, 7, 1000000007, 3037000499, 3037000500, greatest / 2, greatest/2 + 1, greatest - 1, greatest}
}

// twoInts has two registers x and y of TypeInt: through these any two numbers can be had, also those that no literal has.
func twoInts() api.Strategy {
	s := smallest()
	for k, name := range []string{"x", "y"} {
		s.Regs = append(s.Regs, api.Reg{Name: name, Type: tInt, Init: num(int64(k))})
	}
	return s
}

// result is a value or a fault, as numbers without bounds have it.
type result struct {
	n  int64
	no api.Errno
}

func bounded(n *big.Int) result {
	if !n.IsInt64() {
		return result{no: over}
	}
	return result{n: n.Int64()}
}

func said(is bool) result {
	if is {
		return result{n: 1}
	}
	return result{}
}

// oneOf and twoOf are what the chapter's table says of an Oper, by the library's numbers without bounds.
func oneOf(o api.Oper, a int64) result {
	x := big.NewInt(a)
	if o == api.OperAbs {
		return bounded(x.Abs(x))
	}
	return bounded(x.Neg(x))
}

func twoOf(o api.Oper, a, b int64) result {
	x, y := big.NewInt(a), big.NewInt(b)
	against := x.Cmp(y)
	switch o {
	case api.OperMin:
		if against > 0 {
			return bounded(y)
		}
		return bounded(x)
	case api.OperMax:
		if against > 0 {
			return bounded(x)
		}
		return bounded(y)
	case api.OperAdd:
		return bounded(x.Add(x, y))
	case api.OperSub:
		return bounded(x.Sub(x, y))
	case api.OperMul:
		return bounded(x.Mul(x, y))
	case api.OperDiv, api.OperMod:
		if b == 0 {
			return result{no: zero}
		}
		quotient, rest := x.QuoRem(x, y, new(big.Int))
		if o == api.OperDiv {
			return bounded(quotient)
		}
		return bounded(rest)
	}
	return said([]bool{against == 0, against != 0, against < 0, against <= 0, against > 0, against >= 0}[o-api.OperEq])
}

func expectResult(t *testing.T, s api.Strategy, n api.Node, m api.Mode, w api.Snap, want result) {
	t.Helper()
	if want.no != api.OK {
		expectNoValue(t, s, n, m, w, want.no)
		return
	}
	expectValue(t, s, n, m, w, want.n)
}

func TestLiterals(t *testing.T) {
	for to := tInt; to <= tTime; to++ {
		for _, n := range []int64{0, 1, 2, 9, greatest - 1, greatest} {
			expectValue(t, full(), lit(to, n), begun(), seen(), n)
		}
	}
	for _, n := range []api.Node{lit(tBool, 0), lit(tBool, 1), lit(tSide, 1), lit(tSide, 2)} {
		expectValue(t, full(), n, begun(), seen(), n.N)
		expectValue(t, full(), n, begun(), api.Snap{}, n.N)
	}
}

// A register's number is the mode's, not what it begins with: each by its own name, in each mode.
func TestRegisters(t *testing.T) {
	numbers := map[api.Type][]int64{tInt: edges(), tQty: edges(), tPrice: edges(), tTime: edges(), tBool: {0, 1}, tSide: {1, 2}}
	for to, all := range numbers {
		for _, n := range all {
			m := with(regNames[to], n)
			for other := tInt; other <= tSide; other++ {
				want := begun().Regs[other-1]
				if other == to {
					want = n
				}
				expectValue(t, full(), reg(regNames[other]), m, seen(), want)
			}
			m.State = 1
			expectValue(t, full(), reg(regNames[to]), m, api.Snap{}, n)
		}
	}
}

// Bid, ask and last are absent where they are 0; the others may be 0. Each field is its own number, whatever the others are.
func TestFields(t *testing.T) {
	snaps := map[api.Field]func(n int64) api.Snap{
		api.FieldBid:    func(n int64) api.Snap { w := seen(); w.Bid = n; return w },
		api.FieldAsk:    func(n int64) api.Snap { w := seen(); w.Ask = n; return w },
		api.FieldLast:   func(n int64) api.Snap { w := seen(); w.Last = n; return w },
		api.FieldVolume: func(n int64) api.Snap { w := seen(); w.Volume = n; return w },
		api.FieldNow:    func(n int64) api.Snap { w := seen(); w.Now = n; return w },
		api.FieldOpen:   func(n int64) api.Snap { w := seen(); w.Open = n; return w },
	}
	greatestOf := map[api.Field]int64{1: api.MaxPrice, 2: api.MaxPrice, 3: api.MaxPrice, 4: api.MaxVolume, 5: api.MaxTime, 6: api.MaxOpen}
	for f, snapOf := range snaps {
		for _, n := range []int64{1, 2, 999, greatestOf[f] - 1, greatestOf[f]} {
			expectValue(t, full(), field(f), begun(), snapOf(n), n)
			if f <= api.FieldLast {
				expectValue(t, full(), has(f), begun(), snapOf(n), 1)
			}
		}
		for _, w := range []api.Snap{snapOf(0), {}} {
			if f <= api.FieldLast {
				expectNoValue(t, full(), field(f), begun(), w, absent)
				expectValue(t, full(), has(f), begun(), w, 0)
			} else {
				expectValue(t, full(), field(f), begun(), w, 0)
			}
		}
		// The others are as they were.
		for other := api.FieldBid; other <= api.FieldOpen; other++ {
			if other != f {
				is := []int64{0, 11, 13, 12, 1001, 77, 55}[other]
				expectValue(t, full(), field(other), begun(), snapOf(0), is)
			}
			if other != f && other <= api.FieldLast {
				expectValue(t, full(), has(other), begun(), snapOf(0), 1)
			}
		}
		expectNoValue(t, full(), field(f), begun(), snapOf(-1), snapRange)
		expectNoValue(t, full(), field(f), begun(), snapOf(greatestOf[f]+1), snapRange)
	}
}

// OperNeg and OperAbs of numbers from end to end, of each type of number.
func TestOneNumber(t *testing.T) {
	for to := tInt; to <= tTime; to++ {
		for _, a := range edges() {
			m := with(regNames[to], a)
			n := reg(regNames[to])
			for _, o := range []api.Oper{api.OperNeg, api.OperAbs} {
				expectResult(t, full(), oper(o, n), m, seen(), oneOf(o, a))
			}
			for other := tInt; other <= tTime; other++ {
				expectValue(t, full(), conv(other, n), m, seen(), a)
			}
		}
	}
	expectNoValue(t, full(), unary(api.OperNeg, reg("i")), with("i", least), seen(), over)
	expectNoValue(t, full(), call(api.OperAbs, reg("i")), with("i", least), seen(), over)
	expectValue(t, full(), call(api.OperAbs, reg("i")), with("i", least+1), seen(), greatest)
}

func TestNot(t *testing.T) {
	for _, n := range []api.Node{lit(tBool, 0), unary(api.OperNot, lit(tBool, 1))} {
		expectValue(t, full(), n, begun(), seen(), 0)
		expectValue(t, full(), unary(api.OperNot, n), begun(), seen(), 1)
		expectValue(t, full(), unary(api.OperNot, unary(api.OperNot, n)), begun(), seen(), 0)
	}
	expectValue(t, full(), unary(api.OperNot, reg("b")), with("b", 0), seen(), 1)
	expectValue(t, full(), unary(api.OperNot, reg("b")), with("b", 1), seen(), 0)
	expectValue(t, full(), unary(api.OperNot, has(1)), begun(), seen(), 0)
	expectValue(t, full(), unary(api.OperNot, has(1)), begun(), api.Snap{}, 1)
}

// Each Oper of two numbers, of numbers from end to end in both places.
func TestTwoNumbers(t *testing.T) {
	for o := api.OperMin; o <= api.OperGe; o++ {
		for _, a := range edges() {
			for _, b := range edges() {
				expectResult(t, twoInts(), oper(o, reg("x"), reg("y")), mode(0, a, b), seen(), twoOf(o, a, b))
			}
			// A kid and itself.
			expectResult(t, twoInts(), oper(o, reg("y"), reg("y")), mode(0, 3, a), seen(), twoOf(o, a, a))
		}
	}
	below := draw(77)
	number := func() int64 { return (int64(below(1<<62)) - 1<<61) >> below(62) << below(3) }
	for range 3000 {
		a, b := number(), number()
		for o := api.OperMin; o <= api.OperGe; o++ {
			expectResult(t, twoInts(), oper(o, reg("x"), reg("y")), mode(0, a, b), seen(), twoOf(o, a, b))
		}
	}
}

// Quotients and rests by 0, and of the least number by -1.
func TestDivisions(t *testing.T) {
	quotient, rest := binary(api.OperDiv, reg("x"), reg("y")), binary(api.OperMod, reg("x"), reg("y"))
	for _, a := range edges() {
		expectNoValue(t, twoInts(), quotient, mode(0, a, 0), seen(), zero)
		expectNoValue(t, twoInts(), rest, mode(0, a, 0), seen(), zero)
	}
	expectNoValue(t, twoInts(), quotient, mode(0, least, -1), seen(), over)
	expectValue(t, twoInts(), rest, mode(0, least, -1), seen(), 0)
	expectValue(t, twoInts(), quotient, mode(0, least+1, -1), seen(), greatest)
	expectValue(t, twoInts(), quotient, mode(0, least, 1), seen(), least)
	for _, x := range []struct{ a, b, quotient, rest int64 }{{7, 2, 3, 1}, {-7, 2, -3, -1}, {7, -2, -3, 1}, {-7, -2, 3, -1}, {1, 2, 0, 1}, {-1, 2, 0, -1}} {
		expectValue(t, twoInts(), quotient, mode(0, x.a, x.b), seen(), x.quotient)
		expectValue(t, twoInts(), rest, mode(0, x.a, x.b), seen(), x.rest)
	}
}

// Each Oper with numbers of the other types that it takes; bools and sides are held against each other, too.
func TestOtherTypes(t *testing.T) {
	for to := tInt; to <= tTime; to++ {
		s := twoInts()
		s.Regs[0].Type, s.Regs[1].Type = to, to
		s.Regs[0].Init, s.Regs[1].Init = lit(to, 1), lit(to, 1)
		for _, a := range []int64{least, -5, 0, 3, greatest} {
			for _, b := range []int64{least, -1, 0, 2, greatest} {
				for o := api.OperMin; o <= api.OperGe; o++ {
					if o != api.OperMul || to == tInt {
						expectResult(t, s, oper(o, reg("x"), reg("y")), mode(0, a, b), seen(), twoOf(o, a, b))
					}
				}
			}
		}
	}
	m := begun()
	m.Regs = []int64{6, 7, 8, 9, 1, 2}
	for text, want := range map[string]int64{
		"i * q": 42, "q * i": 42, "i * p": 48, "p * i": 48, "i * t": 54, "t * i": 54, "q * p": 56, "p * q": 56, "q / i": 1, "p / i": 1, "t / i": 1, "t / t": 1, "p / p": 1,
		"b == true": 1, "b == false": 0, "b != true": 0, "b != false": 1, "false == false": 1, "d == sell": 1, "d == buy": 0, "d != sell": 0, "d != buy": 1, "has bid == b": 1, "d == d": 1,
	} {
		expectValue(t, full(), expr(t, text), m, seen(), want)
	}
}

func TestAndOr(t *testing.T) {
	s := smallest()
	for _, name := range []string{"x", "y"} {
		s.Regs = append(s.Regs, api.Reg{Name: name, Type: tBool, Init: lit(tBool, 0)})
	}
	for a := range int64(2) {
		for b := range int64(2) {
			expectValue(t, s, binary(api.OperAnd, reg("x"), reg("y")), mode(0, a, b), seen(), a*b)
			expectValue(t, s, binary(api.OperOr, reg("x"), reg("y")), mode(0, a, b), seen(), max(a, b))
		}
	}
}

// A condition of each type: its second kid where the first one is 1, else its third one.
func TestConditions(t *testing.T) {
	for to := tInt; to <= tSide; to++ {
		yes, other := lit(to, 1), reg(regNames[to])
		for _, n := range map[bool][]int64{true: {0, 1}, false: {1, 2}}[to == tBool] {
			m := with(regNames[to], n)
			expectValue(t, full(), cond(has(1), yes, other), m, seen(), 1)
			expectValue(t, full(), cond(has(1), yes, other), m, api.Snap{}, n)
			expectValue(t, full(), cond(has(1), other, yes), m, seen(), n)
			expectValue(t, full(), cond(has(1), other, yes), m, api.Snap{}, 1)
		}
	}
	// Within one another, in each place.
	pick := func(a, b, c int64) api.Node { return cond(lit(tBool, a), num(b), num(c)) }
	expectValue(t, full(), cond(binary(api.OperEq, pick(1, 7, 8), num(7)), pick(0, 1, 2), pick(1, 3, 4)), begun(), seen(), 2)
	expectValue(t, full(), cond(binary(api.OperEq, pick(0, 7, 8), num(7)), pick(0, 1, 2), pick(1, 3, 4)), begun(), seen(), 3)
}

// Places change nothing, nor does which state the mode has.
func TestPlacesDoNotMatter(t *testing.T) {
	n := expr(t, "i + 2 * 3 > 6 && has bid ? p : -p")
	for _, m := range []api.Mode{begun(), {State: 1, Regs: begun().Regs}} {
		expectValue(t, full(), n, m, seen(), -1)
		expectValue(t, full(), numbered(n), m, seen(), -1)
		expectValue(t, numbered(full()), places(n, func(int) int { return -3 }), m, seen(), -1)
	}
}
