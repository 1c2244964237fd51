package machine

import (
	"tripwire/api"
	"tripwire/fixnum"
)

// stack is the numbers that have been laid and not taken off.
type stack struct {
	numbers [api.MaxStack]int64
	high    int
}

func (s *stack) lay(n int64) {
	s.numbers[s.high] = n
	s.high++
}

func (s *stack) take() int64 {
	s.high--
	return s.numbers[s.high]
}

func (s *stack) top() int64 { return s.numbers[s.high-1] }

// deeds are what Opers do, by their numbers.
type deeds [api.OperGe + 1]func()

// opers are what each Oper does to this stack.
func (s *stack) opers() deeds {
	return deeds{
		api.OperNeg: s.neg,
		api.OperNot: s.not,
		api.OperAbs: s.abs,
		api.OperMin: s.lesser,
		api.OperMax: s.greater,
		api.OperAdd: s.add,
		api.OperSub: s.sub,
		api.OperMul: s.mul,
		api.OperDiv: s.div,
		api.OperMod: s.mod,
		api.OperEq:  s.eq,
		api.OperNe:  s.ne,
		api.OperLt:  s.lt,
		api.OperLe:  s.le,
		api.OperGt:  s.gt,
		api.OperGe:  s.ge,
	}
}

// both are two that are taken off; the second one was laid last.
func (s *stack) both() (int64, int64) {
	b := s.take()
	a := s.take()
	return a, b
}

// ratio are both, where one can be divided by the other.
func (s *stack) ratio() (int64, int64) {
	a, b := s.both()
	if b == 0 {
		panic(fault(api.ErrZero))
	}
	return a, b
}

// layWithin lays a number that fixnum tells, if it has told one.
func (s *stack) layWithin(n int64, is bool) {
	if !is {
		panic(fault(api.ErrOver))
	}
	s.lay(n)
}

func (s *stack) neg() { s.layWithin(fixnum.Neg(s.take())) }

func (s *stack) not() { s.lay(truth(s.take() == 0)) }

func (s *stack) abs() {
	if s.top() < 0 {
		s.neg()
	}
}

func (s *stack) lesser() {
	a, b := s.both()
	s.lay(min(a, b))
}

func (s *stack) greater() {
	a, b := s.both()
	s.lay(max(a, b))
}

func (s *stack) add() { s.layWithin(fixnum.Add(s.both())) }

func (s *stack) sub() { s.layWithin(fixnum.Sub(s.both())) }

func (s *stack) mul() { s.layWithin(fixnum.Mul(s.both())) }

func (s *stack) div() { s.layWithin(fixnum.Div(s.ratio())) }

func (s *stack) mod() { s.layWithin(fixnum.Mod(s.ratio())) }

func (s *stack) eq() { s.lay(truth(fixnum.Cmp(s.both()) == 0)) }

func (s *stack) ne() { s.lay(truth(fixnum.Cmp(s.both()) != 0)) }

func (s *stack) lt() { s.lay(truth(fixnum.Cmp(s.both()) < 0)) }

func (s *stack) le() { s.lay(truth(fixnum.Cmp(s.both()) <= 0)) }

func (s *stack) gt() { s.lay(truth(fixnum.Cmp(s.both()) > 0)) }

func (s *stack) ge() { s.lay(truth(fixnum.Cmp(s.both()) >= 0)) }
