package table_test

import (
	"strings"
	"testing"

	"tripwire/api"
)

// of is so many instructions.
func of(n int) string { return "const 0" + strings.Repeat(", oper 1", n-1) }

// The guards of a state count together, the rows of each for themselves.
func TestBoundOfAState(t *testing.T) {
	expectBound(t, smallest(), 0, 0)
	expectBound(t, laid([]rule{when(of(7), halt())}), 7, 0)
	expectBound(t, laid([]rule{when(of(7), halt()), when(of(5), goTo(0)), when(of(1), halt())}), 13, 0)
	expectBound(t, laid([]rule{when(of(7), set(0, of(10))), when(of(5), set(0, of(20)))}), 7+5+20, 0)
	expectBound(t, laid([]rule{when(of(7), set(0, of(20))), when(of(5), set(0, of(10)))}), 7+5+20, 0)
	expectBound(t, laid([]rule{when(of(7), set(0, of(4)), set(1, of(3)), set(0, of(4))), when(of(5), set(0, of(10)))}), 7+5+11, 0)
	expectBound(t, laid([]rule{when(of(7), halt()), when(of(1), set(0, of(4)))}), 7+1+4, 0)
}

// Steps are the greatest of one state's, not those of one state's guards and another one's rows.
func TestBoundOfSeveralStates(t *testing.T) {
	asksMuch := []rule{when(of(30), set(0, of(2))), when(of(20), halt())}
	doesMuch := []rule{when(of(3), set(0, of(45))), when(of(2), set(1, of(1)))}
	expectBound(t, laid(asksMuch), 52, 0)
	expectBound(t, laid(doesMuch), 50, 0)
	expectBound(t, laid(asksMuch, doesMuch), 52, 0)
	expectBound(t, laid(doesMuch, nil, asksMuch), 52, 0)
	doesMuch[0].rows[0] = set(0, of(50))
	expectBound(t, laid(asksMuch, doesMuch), 55, 0)
	expectBound(t, laid(doesMuch, asksMuch), 55, 0)
	expectBound(t, laid(nil, asksMuch, nil), 52, 0)
}

// Each span of each kind of row counts.
func TestBoundOfEachRow(t *testing.T) {
	for _, order := range []api.Kind{api.Limit, api.Now, api.All, api.Post} {
		expectBound(t, laid([]rule{when(of(1), submit(order, 0, of(2), of(4), of(8)))}), 15, 1)
	}
	expectBound(t, laid([]rule{when(of(1), submit(api.Market, 1, of(2), of(4), ""))}), 7, 1)
	expectBound(t, laid([]rule{when(of(1), amend(1, of(2), of(4)))}), 7, 1)
	expectBound(t, laid([]rule{when(of(1), cancel(1))}), 1, 1)
	expectBound(t, laid([]rule{when(of(1), set(0, of(2)))}), 3, 0)
	expectBound(t, laid([]rule{when(of(1), goTo(0))}), 1, 0)
	expectBound(t, laid([]rule{when(of(1), halt())}), 1, 0)
}

// Acts are the greatest of one guard's, whichever its state is, and whether or not its steps are the greatest.
func TestBoundOfActions(t *testing.T) {
	three := []rule{when(of(1), cancel(1), set(0, of(1)), cancel(2), amend(1, of(1), of(1)), goTo(0))}
	two := []rule{when(of(1), cancel(1), submit(api.Limit, 0, of(9), of(9), of(9)), halt()), when(of(1), halt())}
	one := []rule{when(of(50), cancel(1), halt()), when(of(1), set(0, of(90))), when(of(1), cancel(1))}
	expectBound(t, laid(three), 4, 3)
	expectBound(t, laid(two), 29, 2)
	expectBound(t, laid(one), 52+90, 1)
	expectBound(t, laid(one, two, three), 52+90, 3)
	expectBound(t, laid(three, two, one), 52+90, 3)
	expectBound(t, laid(two, one), 52+90, 2)
	expectBound(t, laid(append(two, three...)), 3+27, 3)
	expectBound(t, laid([]rule{when(of(1), times(8, cancel(1))...)}), 1, 8)
}

// All instructions count, whether or not a way goes through them.
func TestBoundOfJumps(t *testing.T) {
	expectBound(t, asking("const 0, else 4, const 1, jump 5, const 2"), 5, 0)
	expectBound(t, laid([]rule{when("has 1, and 3, reg 0", set(0, "has 2, else 4, field 2, jump 5, const 0"))}), 8, 0)
}

func TestBoundOfGreatTables(t *testing.T) {
	expectBound(t, longest(4096), 4096, 0)
	expectBound(t, fullest(), 12+24, 8)
	expectBound(t, laid([]rule{when(of(1000), set(0, of(1000)))}, []rule{when(of(96), set(0, of(2000)))}), 2096, 0)
}
