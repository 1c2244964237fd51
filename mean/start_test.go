package mean_test

import (
	"testing"

	"tripwire/api"
)

func TestBeginsWithWhatIsSaid(t *testing.T) {
	expectStart(t, full(), 1, 1, -1, 1, 1, 2)
	expectStart(t, smallest())
	expectStart(t, strategy(t, "strategy s { reg a int = -7; reg b bool = true; reg c side = sell; reg d time = 9t; reg e bool = false; reg f side = buy; state x {} }"), -7, 1, 2, 9, 0, 1)
	expectStart(t, strategy(t, exampleText), 2)
}

// Each literal that a register may begin with, and each number below a minus, alone and among others.
func TestBeginningsOfEachType(t *testing.T) {
	type beginning struct {
		to   api.Type
		init api.Node
		want int64
	}
	all := []beginning{{tBool, lit(tBool, 0), 0}, {tBool, lit(tBool, 1), 1}, {tSide, lit(tSide, 1), 1}, {tSide, lit(tSide, 2), 2}}
	for to := tInt; to <= tTime; to++ {
		for _, n := range []int64{0, 1, 2, 1000000007, greatest - 1, greatest} {
			all = append(all, beginning{to, lit(to, n), n}, beginning{to, unary(api.OperNeg, lit(to, n)), -n})
		}
	}
	for _, x := range all {
		for place := range 7 {
			s, want := full(), begun().Regs
			fresh := api.Reg{Name: "fresh", Type: x.to, Init: at(5, x.init)}
			s.Regs = append(append(append([]api.Reg{}, s.Regs[:place]...), fresh), s.Regs[place:]...)
			want = append(append(append([]int64{}, want[:place]...), x.want), want[place:]...)
			expectStart(t, s, want...)
		}
		s := smallest()
		s.Regs = []api.Reg{{Name: "fresh", Type: x.to, Init: x.init}}
		expectStart(t, s, x.want)
	}
}

// As many registers as may be, in their order, whatever their names are.
func TestManyRegisters(t *testing.T) {
	s, want := smallest(), []int64{}
	for k := range 12 {
		s.Regs = append(s.Regs, api.Reg{Name: "r" + string(rune('z'-k)), Type: tInt, Init: num(int64(k * k))})
		want = append(want, int64(k*k))
		expectStart(t, s, want...)
		for e := range s.Regs {
			expectValue(t, s, reg(s.Regs[e].Name), mode(0, want...), api.Snap{}, int64(e*e))
		}
	}
	s.Regs = append(s.Regs, api.Reg{Name: "more", Type: tInt, Init: num(1)})
	expectNoStart(t, s, tooMany)
}

// It begins in its first state, whatever its states are called and do.
func TestBeginsInTheFirstState(t *testing.T) {
	s := full(rule(lit(tBool, 1), set("i", num(5)), goTo("z")))
	expectStart(t, s, 1, 1, -1, 1, 1, 2)
	s.States[0], s.States[1] = s.States[1], s.States[0]
	expectStart(t, s, 1, 1, -1, 1, 1, 2)
}
