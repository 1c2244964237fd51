package table_test

import (
	"strconv"
	"strings"
	"testing"

	"tripwire/api"
)

// far are numbers that no A may be, and that might look as if they were one when they are cut.
func far() []int {
	return []int{least, least + 1, -4096, -257, -256, -255, -2, -1, 4097, 1<<16 + 1, 1<<32 + 1, 1<<32 + 2, 1<<40 + 3, greatest - 1, greatest}
}

// expectRange tells whether an instruction may stand with these A alone, laid by a text in which it is @.
func expectRange(t *testing.T, text, kind string, least, most int, turn func(x *api.Table)) {
	t.Helper()
	all := far()
	for a := -3; a <= most+3 && most < 100; a++ {
		all = append(all, a)
	}
	for _, a := range append(all, least-1, least, most, most+1) {
		want := wrongCode
		if least <= a && a <= most {
			want = api.OK
		}
		x := laid([]rule{when(strings.Replace(text, "@", kind+" "+strconv.Itoa(a), 1), halt())})
		turn(&x)
		expectCheck(t, x, want)
		// The same as what a register is set to, behind another span.
		y := laid([]rule{when("has 1, oper 2", set(0, strings.Replace(text, "@", kind+" "+strconv.Itoa(a), 1)))})
		turn(&y)
		expectCheck(t, y, want)
	}
}

func TestConstantsThatMayBeNamed(t *testing.T) {
	for _, n := range []int{0, 1, 2, 12, 16, 17, 1023, 1024} {
		expectRange(t, "@", "const", 0, n-1, func(x *api.Table) { x.Consts = make([]int64, n) })
	}
}

// Of registers the table has one at least, which is set.
func TestRegistersThatMayBeNamed(t *testing.T) {
	for n := 1; n <= 12; n++ {
		expectRange(t, "@", "reg", 0, n-1, func(x *api.Table) { x.Regs = make([]int64, n) })
	}
	x := asking("reg 0")
	x.Regs = nil
	expectCheck(t, x, wrongCode)
}

func TestFieldsThatMayBeNamed(t *testing.T) {
	stays := func(*api.Table) {}
	expectRange(t, "@", "field", 1, 6, stays)
	expectRange(t, "@", "has", 1, 3, stays)
}

func TestOpersThatMayBeNamed(t *testing.T) {
	for a := -3; a <= 20; a++ {
		text, want := "const 0, oper ", api.OK
		if a > 3 {
			text = "const 0, const 1, oper "
		}
		if a < 1 || a > 16 {
			want = wrongCode
		}
		expectCheck(t, asking(text+strconv.Itoa(a)), want)
	}
	for _, a := range far() {
		expectCheck(t, asking("const 0, oper "+strconv.Itoa(a)), wrongCode)
		expectCheck(t, asking("const 0, const 0, oper "+strconv.Itoa(a)), wrongCode)
	}
}

func TestKindsThatAreNone(t *testing.T) {
	for _, kind := range []api.InstrKind{0, 10, 11, 127, 128, 255} {
		for _, a := range append(far(), 0, 1, 2, 3, 4) {
			x := exampleT()
			x.Code[3] = api.Instr{Kind: kind, A: a}
			expectCheck(t, x, wrongCode)
			x = whole()
			x.Code[len(x.Code)-1] = api.Instr{Kind: kind, A: a}
			expectCheck(t, x, wrongCode)
			x = smallest()
			x.States[0] = []api.Guard{{When: span(0, 1), Rows: []api.Row{{Kind: api.DoHalt}}}}
			x.Code = []api.Instr{{Kind: kind, A: a}}
			expectCheck(t, x, wrongCode)
		}
	}
}

// A jump goes to a place above its own, up to its span's To: wherever its span lies, and whatever lies around it.
func TestPlacesOfJumps(t *testing.T) {
	for _, kind := range []string{"and", "or", "else", "jump"} {
		for _, ahead := range []int{0, 1, 3} {
			for at := range 5 {
				for _, a := range append(far(), -1, 0, 1, 2, 3, 4, 5, 6, 7, 8) {
					text := strings.Split("const 0, oper 1, oper 1, oper 1, oper 1", ", ")
					text[at] = kind + " " + strconv.Itoa(a)
					rules := []rule{when(strings.Join(text, ", "), halt()), when("const 0", halt())}
					x := laid(append(times(ahead, when("const 0", halt())), rules...))
					want := modelCheck(x)
					if may := a > at && a <= 5; may != (want != wrongCode) {
						t.Fatalf("the model says %d of %s %d at %d", want, kind, a, at)
					}
					expectCheck(t, x, want)
				}
			}
		}
	}
}

// Where a jump may go, one by one, where its heights fit, too.
func TestPlacesThatFit(t *testing.T) {
	for _, text := range []string{
		"const 0, and 3, const 0", "const 0, or 3, const 0", // to To
		"const 0, and 3, const 0, oper 2", "const 0, or 3, const 0, oper 2", // ahead of it
		"const 0, jump 2", "jump 1, const 0", "const 0, jump 2, oper 1", // to the next one
		"const 0, else 2, const 0", "const 0, const 0, else 3", // else goes to the next one, too
		"const 0, else 4, const 0, jump 5, const 0", "const 0, else 4, const 1, jump 6, const 2, oper 1",
	} {
		expectCheck(t, asking(text), api.OK)
		expectCheck(t, laid([]rule{when("const 0", set(0, "const 1"), set(1, text), set(2, text)), when(text, halt())}), api.OK)
	}
	for _, text := range []string{"const 0, and 1", "const 0, or 1", "const 0, else 1, const 0", "const 0, jump 1", "const 0, and 0", "const 0, and 4, const 0", "const 0, or 4, const 0", "const 0, else 5, const 0, jump 4", "const 0, jump 3", "jump 0, const 0"} {
		expectCheck(t, asking(text), wrongCode)
		expectCheck(t, laid([]rule{when("const 0", set(1, text)), when("const 0, oper 1", halt())}), wrongCode)
	}
}

// An instruction that may not stand is told where it is not come to, too.
func TestInstructionsThatAreNotComeTo(t *testing.T) {
	expectCheck(t, asking("const 0, jump 3, const 3"), wrongCode)
	expectCheck(t, asking("const 0, jump 3, jump 2"), wrongCode)
	expectCheck(t, asking("const 0, jump 3, const 2"), wrongStack)
}
