package fixnum_test

import (
	"math"
	"slices"
	"testing"

	"tripwire/fixnum"
)

const (
	least = math.MinInt64
	most  = math.MaxInt64
)

// twoCase is a call of two numbers, and what it must answer.
type twoCase struct {
	a, b int64
	n    int64
	is   bool
}

func checkTwo(t *testing.T, name string, call func(a, b int64) (int64, bool), cases []twoCase) {
	t.Helper()
	for _, c := range cases {
		if n, is := call(c.a, c.b); n != c.n || is != c.is {
			t.Errorf("%s(%d, %d) is %d, %t; want %d, %t", name, c.a, c.b, n, is, c.n, c.is)
		}
	}
}

func TestAdd(t *testing.T) {
	checkTwo(t, "Add", fixnum.Add, []twoCase{
		{2, 3, 5, true},
		{-2, -3, -5, true},
		{0, 0, 0, true},
		{most, 0, most, true},
		{least, 0, least, true},
		{most, 1, 0, false},
		{1, most, 0, false},
		{most - 1, 1, most, true},
		{least, -1, 0, false},
		{-1, least, 0, false},
		{least + 1, -1, least, true},
		{most, most, 0, false},
		{least, least, 0, false},
		{most, least, -1, true},
		{least, most, -1, true},
		{most, -most, 0, true},
	})
}

func TestSub(t *testing.T) {
	checkTwo(t, "Sub", fixnum.Sub, []twoCase{
		{2, 3, -1, true},
		{-2, -3, 1, true},
		{0, 0, 0, true},
		{least, 1, 0, false},
		{least + 1, 1, least, true},
		{most, -1, 0, false},
		{most - 1, -1, most, true},
		{0, least, 0, false},
		{-1, least, most, true},
		{0, most, -most, true},
		{-1, most, least, true},
		{-2, most, 0, false},
		{least, least, 0, true},
		{most, most, 0, true},
		{most, least, 0, false},
		{least, most, 0, false},
	})
}

func TestMul(t *testing.T) {
	checkTwo(t, "Mul", fixnum.Mul, []twoCase{
		{6, 7, 42, true},
		{-6, 7, -42, true},
		{6, -7, -42, true},
		{-6, -7, 42, true},
		{0, least, 0, true},
		{least, 0, 0, true},
		{0, -1, 0, true},
		{3037000499, 3037000499, 9223372030926249001, true},
		{-3037000499, -3037000499, 9223372030926249001, true},
		{3037000499, -3037000499, -9223372030926249001, true},
		{3037000500, 3037000500, 0, false},
		{-3037000500, 3037000500, 0, false},
		{least, 1, least, true},
		{1, least, least, true},
		{least, -1, 0, false},
		{-1, least, 0, false},
		{most, -1, -most, true},
		{most, 1, most, true},
		{most, 2, 0, false},
		{1 << 32, 1 << 31, 0, false},
		{1 << 32, -1 << 31, least, true},
		{-1 << 32, -1 << 31, 0, false},
		{1 << 32, 1 << 32, 0, false},
		{most, most, 0, false},
		{least, least, 0, false},
		{least, most, 0, false},
		{7, 1317624576693539401, most, true},
		{7, 1317624576693539402, 0, false},
	})
}

func TestDiv(t *testing.T) {
	checkTwo(t, "Div", fixnum.Div, []twoCase{
		{7, 2, 3, true},
		{-7, 2, -3, true},
		{7, -2, -3, true},
		{-7, -2, 3, true},
		{1, 2, 0, true},
		{-1, 2, 0, true},
		{0, 5, 0, true},
		{0, -1, 0, true},
		{0, 0, 0, false},
		{7, 0, 0, false},
		{most, 0, 0, false},
		{least, 0, 0, false},
		{least, -1, 0, false},
		{least, 1, least, true},
		{least + 1, -1, most, true},
		{most, -1, -most, true},
		{least, 2, least / 2, true},
		{least, least, 1, true},
		{most, least, 0, true},
		{least, most, -1, true},
	})
}

func TestMod(t *testing.T) {
	checkTwo(t, "Mod", fixnum.Mod, []twoCase{
		{7, 2, 1, true},
		{-7, 2, -1, true},
		{7, -2, 1, true},
		{-7, -2, -1, true},
		{6, 3, 0, true},
		{-6, 3, 0, true},
		{0, 5, 0, true},
		{0, 0, 0, false},
		{7, 0, 0, false},
		{most, 0, 0, false},
		{least, 0, 0, false},
		{least, -1, 0, true},
		{most, -1, 0, true},
		{least, 1, 0, true},
		{least, least, 0, true},
		{most, least, most, true},
		{least, most, -1, true},
	})
}

func TestNeg(t *testing.T) {
	for _, c := range []struct {
		a, n int64
		is   bool
	}{{0, 0, true}, {1, -1, true}, {-1, 1, true}, {7, -7, true}, {most, least + 1, true}, {least + 1, most, true}, {least, 0, false}} {
		if n, is := fixnum.Neg(c.a); n != c.n || is != c.is {
			t.Errorf("Neg(%d) is %d, %t; want %d, %t", c.a, n, is, c.n, c.is)
		}
	}
}

func TestCmp(t *testing.T) {
	rising := []int64{least, least + 1, -2, -1, 0, 1, 2, most - 1, most}
	for i, a := range rising {
		for j, b := range rising {
			want := 0
			if i < j {
				want = -1
			}
			if i > j {
				want = 1
			}
			if got := fixnum.Cmp(a, b); got != want {
				t.Errorf("Cmp(%d, %d) is %d; want %d", a, b, got, want)
			}
		}
	}
}

func TestMulDiv(t *testing.T) {
	for _, c := range []struct {
		a, b, c, n int64
		is         bool
	}{
		{7, 3, 2, 10, true},
		{-7, 3, 2, -10, true},
		{7, -3, 2, -10, true},
		{7, 3, -2, -10, true},
		{-7, -3, 2, 10, true},
		{-7, -3, -2, -10, true},
		{0, least, least, 0, true},
		{1, 1, least, 0, true},
		{-1, 1, 2, 0, true},
		{most, 10, 20, 4611686018427387903, true},
		{most, 2, 1, 0, false},
		{most, 2, 2, most, true},
		{most, most, most, most, true},
		{most, most, -most, -most, true},
		{least, least, least, least, true},
		{least, least, most, 0, false},
		{least, most, least, most, true},
		{least, most, most, least, true},
		{least, 1, 1, least, true},
		{least, 1, -1, 0, false},
		{least, -1, -1, least, true},
		{least, -1, 1, 0, false},
		{1 << 62, 4, -2, least, true},
		{1 << 62, 4, 2, 0, false},
		{1 << 62, 4, 1, 0, false},
		{least, least, 1, 0, false},
		{1, 1, 0, 0, false},
		{0, 0, 0, 0, false},
		{0, most, 0, 0, false},
		{least, least, 0, 0, false},
	} {
		if n, is := fixnum.MulDiv(c.a, c.b, c.c); n != c.n || is != c.is {
			t.Errorf("MulDiv(%d, %d, %d) is %d, %t; want %d, %t", c.a, c.b, c.c, n, is, c.n, c.is)
		}
	}
}

func TestSum(t *testing.T) {
	for _, c := range []struct {
		l  []int64
		n  int64
		is bool
	}{
		{nil, 0, true},
		{[]int64{}, 0, true},
		{[]int64{0}, 0, true},
		{[]int64{most}, most, true},
		{[]int64{least}, least, true},
		{[]int64{1, 2, 3, 4}, 10, true},
		{[]int64{-1, -2, -3, -4}, -10, true},
		{[]int64{most, 1, -1}, most, true},
		{[]int64{least, -1, 1}, least, true},
		{[]int64{most, 1}, 0, false},
		{[]int64{least, -1}, 0, false},
		{[]int64{most, most, least, least}, -2, true},
		{[]int64{least, least, most, most, 2}, 0, true},
		{[]int64{most, most, 2}, 0, false},
		{[]int64{least, least}, 0, false},
		{[]int64{least, least, least, least}, 0, false},
		{[]int64{most, most, most, most, 4}, 0, false},
	} {
		if n, is := fixnum.Sum(c.l...); n != c.n || is != c.is {
			t.Errorf("Sum(%d) is %d, %t; want %d, %t", c.l, n, is, c.n, c.is)
		}
	}
	if n, is := fixnum.Sum(); n != 0 || !is {
		t.Errorf("Sum of none is %d, %t", n, is)
	}
	if n, is := fixnum.Sum(most, 1, -1); n != most || !is {
		t.Errorf("Sum of numbers one by one is %d, %t", n, is)
	}
}

// A sum that is far outside in between must find its way back, however many numbers led there.
func TestSumOfMany(t *testing.T) {
	const many = 100000
	l := slices.Repeat([]int64{most}, many)
	if n, is := fixnum.Sum(l...); n != 0 || is {
		t.Errorf("Sum of many of the greatest is %d, %t", n, is)
	}
	l = append(l, slices.Repeat([]int64{least}, many)...)
	if n, is := fixnum.Sum(l...); n != -many || !is {
		t.Errorf("Sum there and back is %d, %t; want %d", n, is, -many)
	}
	slices.Reverse(l)
	if n, is := fixnum.Sum(l...); n != -many || !is {
		t.Errorf("Sum there and back, the other way, is %d, %t; want %d", n, is, -many)
	}
}

func TestSumLeavesTheListAlone(t *testing.T) {
	whole := []int64{most, 1, -1, 77, least}
	before := slices.Clone(whole)
	if n, is := fixnum.Sum(whole[:3]...); n != most || !is {
		t.Errorf("Sum of a list with room behind it is %d, %t", n, is)
	}
	if n, is := fixnum.Sum(whole[:2]...); n != 0 || is {
		t.Errorf("Sum out of bounds is %d, %t", n, is)
	}
	if n, is := fixnum.Sum(whole[:0]...); n != 0 || !is {
		t.Errorf("Sum of none, with room behind, is %d, %t", n, is)
	}
	if !slices.Equal(whole, before) {
		t.Errorf("the list is %d; it was %d", whole, before)
	}
}
