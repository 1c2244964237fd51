package mean

import (
	"tripwire/api"
	"tripwire/fixnum"
)

// deed is what an Oper makes of its kids: each reckons as many of them as it needs, from the left.
func deed(o api.Oper) func(x *sight, kids []api.Node) int64 {
	deeds := [...]func(x *sight, kids []api.Node) int64{
		api.OperNeg: (*sight).neg,
		api.OperNot: (*sight).not,
		api.OperAbs: (*sight).abs,
		api.OperMin: (*sight).lesser,
		api.OperMax: (*sight).greater,
		api.OperAdd: (*sight).add,
		api.OperSub: (*sight).sub,
		api.OperMul: (*sight).mul,
		api.OperDiv: (*sight).div,
		api.OperMod: (*sight).mod,
		api.OperEq:  (*sight).eq,
		api.OperNe:  (*sight).ne,
		api.OperLt:  (*sight).lt,
		api.OperLe:  (*sight).le,
		api.OperGt:  (*sight).gt,
		api.OperGe:  (*sight).ge,
		api.OperAnd: (*sight).and,
		api.OperOr:  (*sight).or,
	}
	return deeds[o]
}

// both are the values of two kids.
func (x *sight) both(kids []api.Node) (int64, int64) {
	// In two steps: the first one's fault is met ahead of the second one's.
	a := x.value(kids[0])
	b := x.value(kids[1])
	return a, b
}

// ratio are both, where one can be divided by the other.
func (x *sight) ratio(kids []api.Node) (int64, int64) {
	a, b := x.both(kids)
	if b == 0 {
		panic(fault(api.ErrZero))
	}
	return a, b
}

// within is a number that fixnum tells, if it has told one.
func within(n int64, is bool) int64 {
	if !is {
		panic(fault(api.ErrOver))
	}
	return n
}

func (x *sight) neg(kids []api.Node) int64 { return within(fixnum.Neg(x.value(kids[0]))) }

func (x *sight) not(kids []api.Node) int64 { return isTrue - x.value(kids[0]) }

func (x *sight) abs(kids []api.Node) int64 {
	n := x.value(kids[0])
	if n < 0 {
		return within(fixnum.Neg(n))
	}
	return n
}

func (x *sight) lesser(kids []api.Node) int64 {
	a, b := x.both(kids)
	return min(a, b)
}

func (x *sight) greater(kids []api.Node) int64 {
	a, b := x.both(kids)
	return max(a, b)
}

func (x *sight) add(kids []api.Node) int64 { return within(fixnum.Add(x.both(kids))) }

func (x *sight) sub(kids []api.Node) int64 { return within(fixnum.Sub(x.both(kids))) }

func (x *sight) mul(kids []api.Node) int64 { return within(fixnum.Mul(x.both(kids))) }

func (x *sight) div(kids []api.Node) int64 { return within(fixnum.Div(x.ratio(kids))) }

func (x *sight) mod(kids []api.Node) int64 { return within(fixnum.Mod(x.ratio(kids))) }

func (x *sight) eq(kids []api.Node) int64 { return truth(fixnum.Cmp(x.both(kids)) == 0) }

func (x *sight) ne(kids []api.Node) int64 { return truth(fixnum.Cmp(x.both(kids)) != 0) }

func (x *sight) lt(kids []api.Node) int64 { return truth(fixnum.Cmp(x.both(kids)) < 0) }

func (x *sight) le(kids []api.Node) int64 { return truth(fixnum.Cmp(x.both(kids)) <= 0) }

func (x *sight) gt(kids []api.Node) int64 { return truth(fixnum.Cmp(x.both(kids)) > 0) }

func (x *sight) ge(kids []api.Node) int64 { return truth(fixnum.Cmp(x.both(kids)) >= 0) }

func (x *sight) and(kids []api.Node) int64 {
	if x.value(kids[0]) == isFalse {
		return isFalse
	}
	return x.value(kids[1])
}

func (x *sight) or(kids []api.Node) int64 {
	if x.value(kids[0]) == isTrue {
		return isTrue
	}
	return x.value(kids[1])
}
