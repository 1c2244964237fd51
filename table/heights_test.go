package table_test

import (
	"strconv"
	"strings"
	"testing"

	"tripwire/api"
)

// flat is a text that begins with so many on the stack, and ends with one: between them stands what takes high to behind.
func flat(high, behind int, between string) string {
	var all []string
	all = append(all, times(high, "const 0")...)
	all = append(all, between)
	all = append(all, times(behind-1, "oper 6")...)
	if behind == 0 {
		all = append(all, "has 1")
	}
	return strings.Join(all, ", ")
}

// expectHeight tells whether an instruction takes a height to another one, and can't stand where less than the least lies.
func expectHeight(t *testing.T, text string, atLeast, by int) {
	t.Helper()
	for high := range 6 {
		if high < atLeast {
			for behind := range 6 {
				expectCheck(t, asking(flat(high, behind, text)), wrongStack)
			}
			continue
		}
		for behind := range 8 {
			want := wrongStack
			if behind == high+by {
				want = api.OK
			}
			expectCheck(t, asking(flat(high, behind, text)), want)
			expectCheck(t, laid([]rule{when("const 0, oper 1", cancel(1), set(0, flat(high, behind, text)))}), want)
		}
	}
}

func TestHeightsOfWhatLays(t *testing.T) {
	for _, text := range []string{"const 0", "const 2", "field 1", "field 6", "has 1", "has 3", "reg 0", "reg 2"} {
		expectHeight(t, text, 0, 1)
	}
}

func TestHeightsOfOpers(t *testing.T) {
	for o := 1; o <= 16; o++ {
		if o <= 3 {
			expectHeight(t, "oper "+strconv.Itoa(o), 1, 0)
		} else {
			expectHeight(t, "oper "+strconv.Itoa(o), 2, -1)
		}
	}
}

// expectHeights is a row of texts, each with what Check says of it as a guard.
func expectHeights(t *testing.T, want api.Errno, texts ...string) {
	t.Helper()
	for _, text := range texts {
		expectCheck(t, asking(text), want)
		expectCheck(t, laid(nil, []rule{when("has 1, oper 2", amend(2, "const 0", text))}), want)
	}
}

// At A the height is the same, at the next place 1 less; 1 at least must lie there.
func TestHeightsOfAndAndOr(t *testing.T) {
	for _, kind := range []string{"and ", "or "} {
		expectHeights(t, api.OK,
			"const 0, "+kind+"3, const 1",
			"const 0, const 0, "+kind+"4, const 1, oper 6",
			"const 0, "+kind+"4, const 1, oper 2",
			"const 0, "+kind+"3, const 1, oper 2",
			"const 0, "+kind+"5, const 1, "+kind+"5, const 1",
			"const 0, "+kind+"5, const 1, const 1, oper 6")
		expectHeights(t, wrongStack,
			"const 0, "+kind+"2",                    // the next place, with 1 and 0
			"const 0, "+kind+"3, const 1, const 1",  // A with 1 and 2
			"const 0, const 0, "+kind+"4, const 1",  // 2 at To
			"const 0, "+kind+"4, const 1, const 1",  // To with 1 and 2
			kind+"1, const 0",                       // nothing lies there
			kind+"2, const 0",                       // nor here
			"const 0, "+kind+"3, oper 1",            // the next place has 0
			"const 0, "+kind+"4, const 0, oper 6",   // and 1 here
			"const 0, jump 2, "+kind+"4, "+kind+"4", // 1, then 0
			"const 0, const 0, "+kind+"4, oper 1")   // 2 at To
	}
}

// At both places the height is 1 less; 1 at least must lie there.
func TestHeightsOfElse(t *testing.T) {
	expectHeights(t, api.OK,
		"const 0, else 4, const 1, jump 5, const 2",
		"const 0, const 0, else 3",
		"const 0, const 0, else 4, oper 1",
		"const 0, else 2, const 0",
		"const 0, const 0, else 5, const 0, oper 6",
		"const 0, else 7, const 1, and 6, const 1, oper 3, jump 8, const 0")
	expectHeights(t, wrongStack,
		"const 0, else 2", // 0 at To
		"else 1, const 0", // nothing lies there
		"else 2, const 0",
		"const 0, else 3, const 0",                  // To with 0 and 1
		"const 0, else 4, const 1, jump 4, const 2", // 4 with 0 and 1
		"const 0, else 3, const 1, jump 5, const 2", // 3 with 0 and 1
		"const 0, const 0, else 4, const 0",         // 4 with 1 and 2
		"const 0, const 0, const 0, else 4")         // 2 at To
}

// At A the height is the same, and the next place is not come to by it; nothing need lie there.
func TestHeightsOfJumps(t *testing.T) {
	expectHeights(t, api.OK,
		"jump 1, const 0", "const 0, jump 2", "const 0, jump 2, jump 3, jump 4",
		"const 0, and 4, const 0, jump 4", "const 0, and 4, jump 3, const 0", "const 0, const 0, jump 3, oper 6")
	expectHeights(t, wrongStack,
		"jump 1",                           // 0 at To
		"const 0, const 0, jump 3",         // 2 at To
		"jump 2, const 0, const 0",         // 1 is not come to
		"const 0, jump 3, oper 1",          // 2 is not
		"const 0, jump 4, jump 3, jump 4",  // 2 is not, so 3 isn't
		"const 0, else 3, jump 4, const 0") // To with 0 and 1
}

func TestHeightsAtTo(t *testing.T) {
	for _, text := range []string{"const 0, const 0", "const 0, const 0, const 0", "has 1, has 1, oper 1", "jump 1", "const 0, else 2", "const 0, const 0, and 4, const 0", times2(64)} {
		expectHeights(t, wrongStack, text)
	}
}

// times2 is so many on the stack, and nothing taken off.
func times2(n int) string { return strings.Join(times(n, "const 0"), ", ") }

// heap lays so many, and takes all but one off.
func heap(n int, between ...string) string {
	all := append([]string{times2(n)}, between...)
	return strings.Join(append(all, times(n-1, "oper 6")...), ", ")
}

func TestTheGreatestHeight(t *testing.T) {
	for _, n := range []int{1, 2, 63, 64} {
		expectHeights(t, api.OK, heap(n), heap(n, "oper 1"))
	}
	for _, n := range []int{65, 66, 127, 128, 129, 255, 256, 257, 258, 300, 512, 1000} {
		expectHeights(t, wrongStack, heap(n), heap(n, "oper 1"))
	}
	for _, high := range []int{1, 62, 63} {
		expectHeights(t, api.OK, heap(high, "field 1, oper 6", "reg 1, oper 4", "has 1, oper 5"))
	}
	for _, lays := range []string{"const 0", "field 1", "has 1", "reg 0"} {
		expectHeights(t, wrongStack, heap(64, lays+", oper 6"))
	}
}

// A height that is too great is so in a way round, too, and where all other ways pass by.
func TestTheGreatestHeightBesideAJump(t *testing.T) {
	for _, n := range []int{62, 63, 64, 65} {
		// Behind n there is an else, which leaves n-1, and the two ways lay one again.
		text := times2(n) + ", else " + strconv.Itoa(n+3) + ", const 0, jump " + strconv.Itoa(n+4) + ", const 0" + strings.Repeat(", oper 6", n-1)
		want := api.OK
		if n > 64 {
			want = wrongStack
		}
		expectHeights(t, want, text)
		// One way lays two, and takes one of them off.
		text = times2(n) + ", else " + strconv.Itoa(n+5) + ", const 0, const 0, oper 6, jump " + strconv.Itoa(n+6) + ", const 0" + strings.Repeat(", oper 6", n-1)
		if n > 63 {
			want = wrongStack
		}
		expectHeights(t, want, text)
		// An and leaves n-1, which is then n again.
		text = times2(n) + ", and " + strconv.Itoa(n+2) + ", const 0" + strings.Repeat(", oper 6", n-1)
		want = api.OK
		if n > 64 {
			want = wrongStack
		}
		expectHeights(t, want, text)
	}
}

// A span begins with nothing, whatever the one ahead of it had at its To, and its own last place is no other one's.
func TestSpansKnowNothingOfOneAnother(t *testing.T) {
	expectCheck(t, laid([]rule{when("const 0", set(0, "oper 1"))}), wrongStack)
	expectCheck(t, laid([]rule{when("const 0", set(0, "const 0, oper 6"))}), wrongStack)
	expectCheck(t, laid([]rule{when("const 0", set(0, "jump 1"))}), wrongStack)
	expectCheck(t, laid([]rule{when("const 0", set(0, "and 2, const 0"))}), wrongStack)
	expectCheck(t, laid([]rule{when("const 0", set(0, "const 0, and 3, const 0"), set(0, "const 0, and 3, const 0"))}), api.OK)
	expectCheck(t, laid([]rule{when("const 0", set(0, "const 0")), when("const 0", set(0, "const 0"), set(0, "const 0"))}, []rule{when("const 0", halt())}), api.OK)
}

// alphabet are the instructions of short codes, of which jumps go to each place up to To.
func alphabet(to int) []api.Instr {
	all := code("const 0, field 1, oper 1, oper 6")
	for a := 1; a <= to; a++ {
		for kind := api.InstrAnd; kind <= api.InstrJump; kind++ {
			all = append(all, api.Instr{Kind: kind, A: a})
		}
	}
	return all
}

// All short codes: as the model says. (An or goes where an and does, so of the longest ones it is left out.)
func TestAllShortCodes(t *testing.T) {
	said := map[api.Errno]int{}
	for length := 1; length <= 5; length++ {
		letters := alphabet(length)
		if length == 5 {
			letters = nil
			for _, in := range alphabet(length) {
				if in.Kind != api.InstrOr && in.Kind != api.InstrField {
					letters = append(letters, in)
				}
			}
		}
		x := smallest()
		x.Consts, x.Code = []int64{1}, make([]api.Instr, length)
		x.States[0] = []api.Guard{{When: span(0, length), Rows: []api.Row{{Kind: api.DoHalt}}}}
		var all func(at int)
		all = func(at int) {
			if at < length {
				for _, in := range letters {
					// A jump that goes back is looked at elsewhere.
					if !jumps(in.Kind) || in.A > at {
						x.Code[at] = in
						all(at + 1)
					}
				}
				return
			}
			x.States[0][0].Fields, _ = modelReads(x, span(0, length))
			want := modelCheck(x)
			said[want]++
			expectOnly(t, x, want)
		}
		all(0)
	}
	if said[api.OK] < 400 || said[wrongStack] < 100000 || len(said) != 2 {
		t.Error(said)
	}
}
