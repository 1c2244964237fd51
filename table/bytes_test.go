package table_test

import (
	"encoding/binary"
	"slices"
	"strings"
	"testing"

	"tripwire/api"
	"tripwire/table"
	"tripwire/wire"
)

// bytesOf is those of a table that may be.
func bytesOf(t *testing.T, x api.Table) string {
	t.Helper()
	b, no := table.Encode(x)
	if no != api.OK {
		t.Fatalf("Encode(%s) is %d", short(x), no)
	}
	return b
}

// Each part as the chapter says it, written out.
func TestBytesOfEachPart(t *testing.T) {
	x := laid(
		[]rule{when("has 1, and 5, reg 0, const 0, oper 13", submit(api.Limit, 1, "const 1", "const 2", "field 1"), set(0, "reg 0, const 1, oper 6"), goTo(1))},
		nil,
		[]rule{when("has 3, oper 2", submit(api.Market, 0, "const 1", "const 2, oper 1", ""), amend(1, "const 0, oper 1, oper 1", "field 2"), cancel(1), halt()), when("reg 1", halt())},
	)
	x.Name, x.Regs, x.Slots, x.Consts = "ab1", []int64{-2, 64}, 1, []int64{3, -1, 300}
	content := "\x03ab1" +
		"\x02\x03\x80\x01" + // the registers -2, 64
		"\x01" + // one slot
		"\x03\x06\x01\xd8\x04" + // the constants 3, -1, 300
		"\x15" + // 21 instructions
		"\x03\x01\x06\x05\x04\x00\x01\x00\x05\x0d" +
		"\x01\x01" + "\x01\x02" + "\x02\x01" + "\x04\x00\x01\x01\x05\x06" +
		"\x03\x03\x05\x02" +
		"\x01\x01" + "\x01\x02\x05\x01" + "\x01\x00\x05\x01\x05\x01" + "\x02\x02" +
		"\x04\x01" +
		"\x03" + // three states
		"\x01" + // one guard
		"\x05\x03" + // When, three rows
		"\x01\x01\x01" + "\x01\x01\x01" + // a submit: Side, Qty, Price
		"\x04\x00\x00" + "\x03" + // a set: Value
		"\x05\x00\x01" + // a goto
		"\x00" + // no guard
		"\x02" + // two guards
		"\x02\x04" +
		"\x01\x02\x00" + "\x01\x02" + // a Market submit: Side, Qty
		"\x02\x00\x01" + "\x03\x01" + // an amend: Qty, Price
		"\x03\x00\x01" + // a cancel
		"\x06\x00\x00" + // a halt
		"\x01\x01" + "\x06\x00\x00"
	expectBytes(t, x, framed(content))
}

func TestBytesOfTheSmallest(t *testing.T) {
	expectBytes(t, smallest(), framed("\x01s\x00\x00\x00\x00\x01\x00"))
	x := smallest()
	x.States = make([][]api.Guard, 12)
	expectBytes(t, x, framed("\x01s\x00\x00\x00\x00\x0c"+strings.Repeat("\x00", 12)))
}

// Registers and constants are any numbers, also below 0.
func TestBytesOfNumbers(t *testing.T) {
	for _, n := range []int64{0, 1, -1, 2, -2, 63, 64, -64, -65, 127, 128, 300, 8191, 8192, -8192, -8193, 1 << 31, -1 << 31, 1 << 32, 1<<62 - 1, 1 << 62, greatest, greatest - 1, least, least + 1} {
		zig := string(binary.AppendVarint(nil, n))
		x := smallest()
		x.Regs = []int64{n}
		expectBytes(t, x, framed("\x01s\x01"+zig+"\x00\x00\x00\x01\x00"))
		x.Regs, x.Slots, x.Consts = []int64{n, 0, n}, 4, []int64{n, n}
		expectBytes(t, x, framed("\x01s\x03"+zig+"\x00"+zig+"\x04\x02"+zig+zig+"\x00\x01\x00"))
	}
}

// Numbers of more than one byte: how many constants, instructions, where jumps go, how long spans are.
func TestBytesOfGreatNumbers(t *testing.T) {
	x := longest(4096)
	expectBytes(t, x, framed("\x01s\x03\x0a\x0b\x0e\x02\x03\x02\x03\xd8\x04\x80\x20\x01\x00"+strings.Repeat("\x05\x01", 4095)+"\x01\x01\x80\x20\x01\x06\x00\x00"))
	x = laid([]rule{when("const 200, and 4096"+strings.Repeat(", has 1, oper 2", 1)+strings.Repeat(", oper 2", 4092), halt())})
	x.Regs, x.Slots, x.Consts = nil, 0, make([]int64, 1024)
	expectBytes(t, x, framed("\x01s\x00\x00\x80\x08"+strings.Repeat("\x00", 1024)+"\x80\x20\x01\xc8\x01\x06\x80\x20\x03\x01"+strings.Repeat("\x05\x02", 4093)+"\x01\x01\x80\x20\x01\x06\x00\x00"))
	for _, x := range []api.Table{fullest(), whole(), laid([]rule{when(of(127), set(0, of(128)), amend(1, of(129), of(1000)))})} {
		expectBytes(t, x, framed(modelContent(x)))
	}
}

// Fields and Regs follow: they are in no bytes, and come out of them.
func TestMasksFollow(t *testing.T) {
	x, no := table.Decode(bytesOf(t, whole()))
	if no != api.OK || x.States[0][0].Fields != 1<<1 || x.States[0][0].Regs != 1<<0 || x.States[0][1].Fields != 1<<3|1<<4 || x.States[0][1].Regs != 1<<1 || x.States[2][0].Fields != 1<<5 {
		t.Error(short(x), no)
	}
}

// several are tables of all kinds, none too great to be spoiled byte by byte.
func several() []api.Table {
	all := []api.Table{smallest(), exampleT(), whole(), asking("field 1, reg 2, oper 6")}
	for k := uint64(4000000); len(all) < 12; k++ {
		if x := drawnTable(k); between(len(modelContent(x)), [2]int{60, 150}) {
			all = append(all, x)
		}
	}
	return all
}

// Bytes of which one is another one are refused, whichever it is.
func TestEachByteAnotherOne(t *testing.T) {
	for i, x := range several() {
		b := []byte(bytesOf(t, x))
		for at := range b {
			was := b[at]
			for by := 1; by < 256; by++ {
				if i >= 4 && by&(by-1) != 0 && by != 255 {
					continue
				}
				b[at] = was ^ byte(by)
				expectNoTable(t, string(b))
			}
			b[at] = was
		}
	}
}

func TestEachCut(t *testing.T) {
	for _, x := range append(several(), longest(4096), fullest()) {
		b := bytesOf(t, x)
		for n := range len(b) {
			if n < 300 || n%97 == 0 || n > len(b)-300 {
				expectNoTable(t, b[:n])
			}
			if n > 0 && n < 300 {
				expectNoTable(t, b[n:])
			}
		}
	}
}

func TestMoreBehind(t *testing.T) {
	for _, x := range several() {
		b := bytesOf(t, x)
		for c := range 256 {
			expectNoTable(t, b+string([]byte{byte(c)}))
			expectNoTable(t, string([]byte{byte(c)})+b)
		}
		expectNoTable(t, b+b)
		expectNoTable(t, b+strings.Repeat("\x00", 70000))
	}
}

func TestBytesThatAreNothing(t *testing.T) {
	for _, b := range []string{"", "\x00", "\x01", "s", framed(""), framed("\x00"), framed("s"), framed("\x01s"), strings.Repeat("\xff", 10), strings.Repeat("\x80", 100), strings.Repeat("\x00", 100), strings.Repeat("\x01", 70000)} {
		expectNoTable(t, b)
	}
	for a := range 256 {
		expectNoTable(t, string([]byte{byte(a)}))
		for b := range 256 {
			expectNoTable(t, string([]byte{byte(a), byte(b)}))
			expectNoTable(t, framed(string([]byte{byte(a), byte(b)})))
		}
	}
	for k := range 3000 {
		below := draw(uint64(5000000 + k))
		b := make([]byte, below(60))
		for i := range b {
			b[i] = byte(below(12))
		}
		expectNoTable(t, string(b))
	}
}

// A frame that is right, around a content of which a byte is another one: mostly it is none; where it is another table's, that comes out.
func TestEachByteOfAContent(t *testing.T) {
	taken, refused := 0, 0
	for _, x := range several() {
		c := []byte(modelContent(x))
		for at := range c {
			was := c[at]
			for by := 1; by < 256; by++ {
				if len(c) > 60 && by > 7 && by&(by-1) != 0 && by != 255 {
					continue
				}
				c[at] = was ^ byte(by)
				if expectDecode(t, framed(string(c))) {
					taken++
				} else {
					refused++
				}
			}
			c[at] = was
		}
	}
	if taken < 100 || refused < 10000 {
		t.Errorf("%d were taken, %d refused", taken, refused)
	}
}

// expectDecode holds Decode against the model, and what it tells against its bytes.
func expectDecode(t *testing.T, b string) bool {
	t.Helper()
	want, wantNo := modelDecode(b)
	if wantNo != api.OK {
		expectNoTable(t, b)
		return false
	}
	expectBytes(t, want, b)
	return true
}

func TestEachCutOfAContent(t *testing.T) {
	for _, x := range append(several(), fullest()) {
		c := modelContent(x)
		expectBytes(t, x, framed(c))
		for n := range len(c) {
			if n < 200 || n > len(c)-200 {
				expectNoTable(t, framed(c[:n]))
			}
		}
		for b := range 256 {
			expectNoTable(t, framed(c+string([]byte{byte(b)})))
			expectDecode(t, framed(string([]byte{byte(b)})+c))
		}
		expectNoTable(t, framed(c+c))
		expectNoTable(t, framed(framed(c)))
		expectNoTable(t, c)
	}
}

// A byte that is put in, or left out, or two that change places, in a frame that is right.
func TestContentsThatAreShifted(t *testing.T) {
	for _, x := range several() {
		c := modelContent(x)
		for at := range len(c) {
			for b := range 8 {
				expectDecode(t, framed(c[:at]+string([]byte{byte(b)})+c[at:]))
			}
			expectDecode(t, framed(c[:at]+c[at+1:]))
			expectDecode(t, framed(c[:at]+c[len(c)-1-at:]))
			if at > 0 {
				swapped := []byte(c)
				swapped[at-1], swapped[at] = swapped[at], swapped[at-1]
				expectDecode(t, framed(string(swapped)))
			}
		}
	}
}

// numbersOf are the numbers of a content behind its name; which of them are registers and constants, whose numbers may be any.
func numbersOf(x api.Table) (numbers []uint64, any []bool) {
	c := []byte(modelContent(x))[1+len(x.Name):]
	for len(c) > 0 {
		n, size := binary.Uvarint(c)
		numbers, c = append(numbers, n), c[size:]
	}
	any = make([]bool, len(numbers))
	for i := range x.Regs {
		any[1+i] = true
	}
	for i := range x.Consts {
		any[3+len(x.Regs)+i] = true
	}
	return numbers, any
}

// Numbers that are too great are refused, also where they would be others if they were cut to fewer bits; those of registers and constants may be any.
func TestNumbersTooGreat(t *testing.T) {
	for _, x := range several() {
		numbers, any := numbersOf(x)
		name := string(binary.AppendUvarint(nil, uint64(len(x.Name)))) + x.Name
		for i, was := range numbers {
			for _, n := range []uint64{was + 1<<8, was + 1<<13, was + 1<<16, was + 1<<32, was + 1<<33, was + 1<<63, -was - 1, 1 << 31, 1<<32 - 1, 1 << 62, 1<<63 - 1, 1 << 63, 1<<64 - 1} {
				if n == was {
					continue
				}
				l := slices.Clone(numbers)
				l[i] = n
				b := framed(wire.Put(name, l...))
				switch {
				case any[i]:
					if !expectDecode(t, b) {
						t.Errorf("%s with the number %d is refused", short(x), n)
					}
				case n > 4096:
					expectNoTable(t, b)
				default:
					expectDecode(t, b)
				}
			}
		}
	}
}

// Each number one more and one less, and each count: the content then has more than is counted, or less.
func TestNumbersNextToWhatTheyAre(t *testing.T) {
	for _, x := range several() {
		numbers, _ := numbersOf(x)
		name := string(binary.AppendUvarint(nil, uint64(len(x.Name)))) + x.Name
		for i, was := range numbers {
			for n := range uint64(20) {
				l := slices.Clone(numbers)
				l[i] = n
				if n != was {
					expectDecode(t, framed(wire.Put(name, l...)))
				}
			}
		}
	}
}

// Counts that are too great are refused also where all that they count is there.
func TestCountsTooGreat(t *testing.T) {
	none := strings.Repeat("\x00", 100)
	table := func(regs, slots, consts, code, states string) string {
		return framed("\x01s" + regs + slots + consts + code + states)
	}
	halts := func(n int) string { return strings.Repeat("\x01\x01\x06\x00\x00", n) }
	has := func(n int) string { return strings.Repeat("\x03\x01", n) }
	expectDecode := func(t *testing.T, b string, is bool) {
		t.Helper()
		if expectDecode(t, b) != is {
			t.Errorf("%s is told to be the other way", short(b))
		}
	}
	expectDecode(t, table("\x0c"+none[:12], "\x00", "\x00", "\x00", "\x01\x00"), true)
	expectDecode(t, table("\x0d"+none[:13], "\x00", "\x00", "\x00", "\x01\x00"), false)
	expectDecode(t, table("\x00", "\x04", "\x00", "\x00", "\x01\x00"), true)
	expectDecode(t, table("\x00", "\x05", "\x00", "\x00", "\x01\x00"), false)
	expectDecode(t, table("\x00", "\x00", "\x80\x08"+strings.Repeat("\x00", 1024), "\x00", "\x01\x00"), true)
	expectDecode(t, table("\x00", "\x00", "\x81\x08"+strings.Repeat("\x00", 1025), "\x00", "\x01\x00"), false)
	expectDecode(t, table("\x00", "\x00", "\x00", "\x00", "\x0c"+none[:12]), true)
	expectDecode(t, table("\x00", "\x00", "\x00", "\x00", "\x0d"+none[:13]), false)
	expectDecode(t, table("\x00", "\x00", "\x00", "\x00", "\x00"), false)
	expectDecode(t, table("\x00", "\x00", "\x00", "\x0c"+has(12), "\x01\x0c"+halts(12)), true)
	expectDecode(t, table("\x00", "\x00", "\x00", "\x0d"+has(13), "\x01\x0d"+halts(13)), false)
	expectDecode(t, table("\x00", "\x01", "\x00", "\x01"+has(1), "\x01\x01\x01\x08"+strings.Repeat("\x03\x00\x01", 8)), true)
	expectDecode(t, table("\x00", "\x01", "\x00", "\x01"+has(1), "\x01\x01\x01\x09"+strings.Repeat("\x03\x00\x01", 9)), false)
	expectDecode(t, table("\x00", "\x01", "\x00", "\x01"+has(1), "\x01\x01\x01\x00"), false)
	expectDecode(t, table("\x00", "\x00", "\x00", "\x80\x20"+has(1)+strings.Repeat("\x05\x02", 4095), "\x01\x01\x80\x20\x01\x06\x00\x00"), true)
	expectDecode(t, table("\x00", "\x00", "\x00", "\x81\x20"+has(1)+strings.Repeat("\x05\x02", 4096), "\x01\x01\x81\x20\x01\x06\x00\x00"), false)
}

// Names that are none, within a frame that is right.
func TestContentsWithoutAName(t *testing.T) {
	rest := modelContent(smallest())[2:]
	for _, name := range []string{"", "bid", "A", "a b", longName + "q", "\x00"} {
		expectNoTable(t, framed(string([]byte{byte(len(name))})+name+rest))
	}
	expectDecode(t, framed("\x10"+longName+rest))
	expectNoTable(t, framed("\xff\xff\x03"+strings.Repeat("a", 65530)))
	expectNoTable(t, framed("\x81\x00s"+rest))
}

// Each number has one form alone: in a longer one it is refused, in the frame's length, too.
func TestNumbersInAnotherForm(t *testing.T) {
	c := modelContent(exampleT())
	for at := range len(c) {
		if c[at] != 's' {
			expectNoTable(t, framed(c[:at]+string([]byte{c[at] | 128, 0})+c[at+1:]))
			expectNoTable(t, framed(c[:at]+string([]byte{c[at] | 128, 128, 0})+c[at+1:]))
		}
	}
	b := framed(c)
	expectNoTable(t, string([]byte{b[0] | 128, 0})+b[1:])
}

// What reads well, but may not be: each of Check's errors is told as the one of bytes.
func TestContentsThatCheckRefuses(t *testing.T) {
	for _, x := range []api.Table{
		asking("const 3"), asking("reg 3"), asking("has 4"), asking("field 7"), asking("const 0, oper 17"), asking("const 0, and 1"), asking("const 0, jump 3"), // the code
		asking("const 0, const 0"), asking("oper 1"), asking("const 0, and 2"), asking(heap(65)), // the stack
		laid([]rule{when("const 0", cancel(3))}), laid([]rule{when("const 0", cancel(0))}), laid([]rule{when("const 0", goTo(1))}), laid([]rule{when("const 0", halt(), halt())}), // the form
		laid([]rule{when("const 0", set(3, "const 0"))}), laid([]rule{when("const 0")}), laid([]rule{when("", halt())}), laid([]rule{when("const 0", set(0, ""))}),
		laid([]rule{when("const 0", submit(0, 0, "const 0", "const 0", "const 0"))}), laid([]rule{when("const 0", submit(6, 0, "const 0", "const 0", "const 0"))}),
		change(asking("const 0"), func(x *api.Table) { x.Code = append(x.Code, x.Code...) }),
		change(asking("const 0, oper 1"), func(x *api.Table) { x.Code = x.Code[:1] }),
		change(smallest(), func(x *api.Table) { x.States = nil }),
	} {
		if table.Check(x) == api.OK {
			t.Errorf("%s may be", short(x))
		}
		expectNoTable(t, framed(modelContent(x)))
	}
}
