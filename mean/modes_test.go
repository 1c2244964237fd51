package mean_test

import (
	"testing"

	"tripwire/api"
)

// expectMode tells whether a mode is the strategy's, by both calls that ask.
func expectMode(t *testing.T, s api.Strategy, m api.Mode) {
	t.Helper()
	expectValue(t, s, num(5), m, seen(), 5)
	expectStays(t, s, m, seen(), nothing())
}

func expectNoMode(t *testing.T, s api.Strategy, m api.Mode) {
	t.Helper()
	expectNoValue(t, s, num(5), m, seen(), noMode)
	expectNoTurn(t, s, m, seen(), noMode)
}

func TestStatesOfModes(t *testing.T) {
	for count := 1; count <= 12; count++ {
		s := full()
		s.States = nil
		for k := range count {
			s.States = append(s.States, api.State{Name: "s" + string(rune('a'+k))})
		}
		for k := range count {
			expectMode(t, s, mode(k, begun().Regs...))
		}
		for _, k := range []int{-1, -2, least, count, count + 1, 12, 13, 256, 1 << 32, greatest} {
			if k < 0 || k >= count {
				expectNoMode(t, s, mode(k, begun().Regs...))
			}
		}
	}
}

func TestRegistersOfModes(t *testing.T) {
	for count := range 13 {
		s := smallest()
		for k := range count {
			s.Regs = append(s.Regs, api.Reg{Name: "r" + string(rune('a'+k)), Type: tInt, Init: num(0)})
		}
		for have := range 15 {
			m := mode(0, times(have, int64(1))...)
			if have == count {
				expectMode(t, s, m)
			} else {
				expectNoMode(t, s, m)
			}
		}
	}
	expectMode(t, smallest(), api.Mode{})
	expectMode(t, smallest(), api.Mode{Regs: []int64{}})
	expectNoMode(t, full(), api.Mode{})
	expectNoMode(t, full(), api.Mode{Regs: make([]int64, 0, 6)})
	expectNoMode(t, full(), mode(0, begun().Regs[:5]...))
	expectNoMode(t, full(), mode(0, append(begun().Regs, 0)...))
}

// Of a bool 0 or 1, of a side 1 or 2, of all others any number.
func TestNumbersOfModes(t *testing.T) {
	for to := tInt; to <= tSide; to++ {
		for _, n := range append(edges(), 256, 257, 1<<32, 1<<32+1) {
			is := to <= tTime || to == tBool && (n == 0 || n == 1) || to == tSide && (n == 1 || n == 2)
			m := with(regNames[to], n)
			if is {
				expectMode(t, full(), m)
			} else {
				expectNoMode(t, full(), m)
			}
		}
	}
	expectNoMode(t, full(), with("b", 2))
	expectNoMode(t, full(), with("b", -1))
	expectNoMode(t, full(), with("d", 0))
	expectNoMode(t, full(), with("d", 3))
}

// Each register is asked by its own type, wherever it stands, and also if nothing names it.
func TestEveryRegisterOfAMode(t *testing.T) {
	for count := 1; count <= 12; count++ {
		for which := range count {
			for _, to := range []api.Type{tBool, tSide} {
				s, regs := smallest(), times(count, int64(0))
				for k := range count {
					s.Regs = append(s.Regs, api.Reg{Name: "r" + string(rune('a'+k)), Type: tInt, Init: num(0)})
				}
				s.Regs[which].Type, s.Regs[which].Init = to, lit(to, 1)
				for n := int64(-1); n <= 4; n++ {
					regs[which] = n
					if to == tBool && (n == 0 || n == 1) || to == tSide && (n == 1 || n == 2) {
						expectMode(t, s, mode(0, regs...))
					} else {
						expectNoMode(t, s, mode(0, regs...))
					}
				}
			}
		}
	}
}

// What lies behind the list of registers is not asked.
func TestRoomBehindRegisters(t *testing.T) {
	regs := append(begun().Regs, 7, 8, 9)
	expectMode(t, full(), mode(0, regs[:6]...))
	expectNoMode(t, full(), mode(0, regs[:5]...))
	expectNoMode(t, full(), mode(0, regs[:7]...))
}
