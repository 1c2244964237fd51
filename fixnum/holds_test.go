package fixnum_test

import (
	"math/big"
	"slices"
	"testing"

	"tripwire/fixnum"
)

// The tests of this file hold the calls against numbers without bounds (math/big), over all the edges and over numbers of every length.

// edges are the numbers at which a sign, a word or a product turns.
func edges() []int64 {
	return []int64{
		least, least + 1, least + 2, least / 2, least/2 - 1, -1<<32 - 1, -1 << 32, -1<<32 + 1, -3037000500, -3037000499, -1 << 31, -10, -7, -3, -2, -1,
		0, 1, 2, 3, 7, 10, 1 << 31, 3037000499, 3037000500, 1<<32 - 1, 1 << 32, 1<<32 + 1, most / 2, most/2 + 1, most - 1, most,
	}
}

// draw gives numbers of every length, the same ones in each run.
type draw uint64

func (d *draw) next() int64 {
	short := d.word() % 64
	return int64(d.word()) >> short
}

func (d *draw) word() uint64 {
	*d += 0x9e3779b97f4a7c15
	z := uint64(*d)
	z = (z ^ z>>30) * 0xbf58476d1ce4e5b9
	z = (z ^ z>>27) * 0x94d049bb133111eb
	return z ^ z>>31
}

// bounded is what a call must answer whose exact answer is n (nil: there is none).
func bounded(n *big.Int) (int64, bool) {
	if n == nil || !n.IsInt64() {
		return 0, false
	}
	return n.Int64(), true
}

func quo(a, b *big.Int) *big.Int {
	if b.Sign() == 0 {
		return nil
	}
	return new(big.Int).Quo(a, b)
}

func rem(a, b *big.Int) *big.Int {
	if b.Sign() == 0 {
		return nil
	}
	return new(big.Int).Rem(a, b)
}

// pairs goes through all pairs of edges, then through drawn ones.
func pairs(yield func(a, b int64) bool) {
	for _, a := range edges() {
		for _, b := range edges() {
			if !yield(a, b) {
				return
			}
		}
	}
	d := draw(1)
	for range 50000 {
		if !yield(d.next(), d.next()) {
			return
		}
	}
}

func TestTwoNumbersAreExact(t *testing.T) {
	for _, c := range []struct {
		name  string
		call  func(a, b int64) (int64, bool)
		exact func(a, b *big.Int) *big.Int
	}{
		{"Add", fixnum.Add, func(a, b *big.Int) *big.Int { return new(big.Int).Add(a, b) }},
		{"Sub", fixnum.Sub, func(a, b *big.Int) *big.Int { return new(big.Int).Sub(a, b) }},
		{"Mul", fixnum.Mul, func(a, b *big.Int) *big.Int { return new(big.Int).Mul(a, b) }},
		{"Div", fixnum.Div, quo},
		{"Mod", fixnum.Mod, rem},
	} {
		for a, b := range pairs {
			wantN, wantIs := bounded(c.exact(big.NewInt(a), big.NewInt(b)))
			if n, is := c.call(a, b); n != wantN || is != wantIs {
				t.Fatalf("%s(%d, %d) is %d, %t; want %d, %t", c.name, a, b, n, is, wantN, wantIs)
			}
		}
	}
}

func TestNegAndCmpAreExact(t *testing.T) {
	for a, b := range pairs {
		wantN, wantIs := bounded(new(big.Int).Neg(big.NewInt(a)))
		if n, is := fixnum.Neg(a); n != wantN || is != wantIs {
			t.Fatalf("Neg(%d) is %d, %t; want %d, %t", a, n, is, wantN, wantIs)
		}
		if got, want := fixnum.Cmp(a, b), big.NewInt(a).Cmp(big.NewInt(b)); got != want {
			t.Fatalf("Cmp(%d, %d) is %d; want %d", a, b, got, want)
		}
	}
}

func TestMulDivIsExact(t *testing.T) {
	check := func(a, b, c int64) {
		product := new(big.Int).Mul(big.NewInt(a), big.NewInt(b))
		wantN, wantIs := bounded(quo(product, big.NewInt(c)))
		if n, is := fixnum.MulDiv(a, b, c); n != wantN || is != wantIs {
			t.Fatalf("MulDiv(%d, %d, %d) is %d, %t; want %d, %t", a, b, c, n, is, wantN, wantIs)
		}
	}
	for _, a := range edges() {
		for _, b := range edges() {
			for _, c := range edges() {
				check(a, b, c)
			}
		}
	}
	d := draw(2)
	for range 100000 {
		check(d.next(), d.next(), d.next())
	}
}

func TestSumIsExact(t *testing.T) {
	d := draw(3)
	all := edges()
	for range 20000 {
		l := make([]int64, d.word()%12)
		total := new(big.Int)
		for i := range l {
			l[i] = d.next()
			if d.word()%2 == 0 {
				l[i] = all[d.word()%uint64(len(all))]
			}
			total.Add(total, big.NewInt(l[i]))
		}
		wantN, wantIs := bounded(total)
		if n, is := fixnum.Sum(l...); n != wantN || is != wantIs {
			t.Fatalf("Sum(%d) is %d, %t; want %d, %t", l, n, is, wantN, wantIs)
		}
	}
}

func TestDivAndModMakeTheNumberAgain(t *testing.T) {
	for a, b := range pairs {
		quotient, isQuotient := fixnum.Div(a, b)
		left, isLeft := fixnum.Mod(a, b)
		if !isQuotient || !isLeft {
			continue
		}
		product, isProduct := fixnum.Mul(b, quotient)
		again, isAgain := fixnum.Add(product, left)
		if !isProduct || !isAgain || again != a {
			t.Fatalf("%d by %d is %d with %d left; made again: %d, %t, %t", a, b, quotient, left, again, isProduct, isAgain)
		}
		if left != 0 && (left < 0) != (a < 0) {
			t.Fatalf("Mod(%d, %d) is %d: not of the first one's sign", a, b, left)
		}
	}
}

// orders goes through all orders of l.
func orders(l []int64, tell func(l []int64)) {
	var lay func(at int)
	lay = func(at int) {
		if at == len(l) {
			tell(l)
			return
		}
		for i := at; i < len(l); i++ {
			l[at], l[i] = l[i], l[at]
			lay(at + 1)
			l[at], l[i] = l[i], l[at]
		}
	}
	lay(0)
}

func TestSumDoesNotHangOnTheOrder(t *testing.T) {
	for _, l := range [][]int64{
		{1, 2, 3},
		{most, 1, -1},
		{least, -1, 1},
		{most, most, least, least, 2},
		{most, most, most, least, least, least},
		{least, least, -1, most, most, 3},
		{most, most, 2, -1},
		{least, least, least, 1, most},
	} {
		wantN, wantIs := fixnum.Sum(l...)
		orders(slices.Clone(l), func(l []int64) {
			if n, is := fixnum.Sum(l...); n != wantN || is != wantIs {
				t.Fatalf("Sum(%d) is %d, %t; in another order %d, %t", l, n, is, wantN, wantIs)
			}
		})
	}
}
