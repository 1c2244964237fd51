package fixnum_test

import (
	"testing"

	"tripwire/fixnum"
)

// TestExamples has the chapter's examples, by their numbers.
func TestExamples(t *testing.T) {
	expect := func(example int, n int64, is bool, wantN int64, wantIs bool) {
		t.Helper()
		if n != wantN || is != wantIs {
			t.Errorf("example %d: %d, %t; want %d, %t", example, n, is, wantN, wantIs)
		}
	}
	n, is := fixnum.Add(9223372036854775807, 1)
	expect(1, n, is, 0, false)
	n, is = fixnum.Sub(-9223372036854775808, 1)
	expect(1, n, is, 0, false)
	n, is = fixnum.Neg(-9223372036854775808)
	expect(1, n, is, 0, false)

	n, is = fixnum.Mul(3037000500, 3037000500)
	expect(2, n, is, 0, false)
	n, is = fixnum.Mul(3037000499, 3037000499)
	expect(2, n, is, 9223372030926249001, true)
	n, is = fixnum.Mul(-9223372036854775808, 1)
	expect(2, n, is, -9223372036854775808, true)

	n, is = fixnum.Div(-7, 2)
	expect(3, n, is, -3, true)
	n, is = fixnum.Mod(-7, 2)
	expect(3, n, is, -1, true)
	n, is = fixnum.Div(7, -2)
	expect(3, n, is, -3, true)
	n, is = fixnum.Mod(7, -2)
	expect(3, n, is, 1, true)
	n, is = fixnum.Mod(-9223372036854775808, -1)
	expect(3, n, is, 0, true)
	n, is = fixnum.Div(-9223372036854775808, -1)
	expect(3, n, is, 0, false)

	n, is = fixnum.Sum(9223372036854775807, 1, -1)
	expect(4, n, is, 9223372036854775807, true)

	n, is = fixnum.MulDiv(9223372036854775807, 10, 20)
	expect(5, n, is, 4611686018427387903, true)
	n, is = fixnum.MulDiv(-7, 3, 2)
	expect(5, n, is, -10, true)
	n, is = fixnum.MulDiv(9223372036854775807, 2, 1)
	expect(5, n, is, 0, false)
}
