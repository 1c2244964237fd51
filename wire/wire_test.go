package wire_test

import (
	"slices"
	"strings"
	"testing"

	"tripwire/api"
	"tripwire/wire"
)

// Each number at which one byte more is wanted, and its neighbours.
func TestOneByteMore(t *testing.T) {
	for size := 1; size <= 9; size++ {
		first := uint64(1) << (7 * size)
		full := strings.Repeat("\xff", size-1) + "\x7f"
		round := strings.Repeat("\x80", size) + "\x01"
		next := "\x81" + round[1:]
		for _, c := range []struct {
			n    uint64
			want string
		}{{first - 1, full}, {first, round}, {first + 1, next}} {
			if got := wire.Size(c.n); got != len(c.want) {
				t.Errorf("Size(%d) is %d; want %d", c.n, got, len(c.want))
			}
			expectPut(t, c.want, "", c.n)
			expectTake(t, c.want, 0, c.n, len(c.want), api.OK)
		}
	}
	for _, c := range []struct {
		n    uint64
		want string
	}{
		{0, "\x00"}, {1, "\x01"}, {2, "\x02"},
		{1<<63 - 1, "\xff\xff\xff\xff\xff\xff\xff\xff\x7f"},
		{1 << 63, "\x80\x80\x80\x80\x80\x80\x80\x80\x80\x01"},
		{greatest - 1, "\xfe\xff\xff\xff\xff\xff\xff\xff\xff\x01"},
		{greatest, "\xff\xff\xff\xff\xff\xff\xff\xff\xff\x01"},
	} {
		if got := wire.Size(c.n); got != len(c.want) {
			t.Errorf("Size(%d) is %d; want %d", c.n, got, len(c.want))
		}
		expectPut(t, c.want, "", c.n)
		expectTake(t, c.want, 0, c.n, len(c.want), api.OK)
	}
}

func TestPutManyOrNone(t *testing.T) {
	expectPut(t, "", "")
	expectPut(t, "xy", "xy")
	expectPut(t, "xy", "xy", []uint64{}...)
	expectPut(t, "", "", nil...)
	expectPut(t, "xy\x00", "xy", 0)
	expectPut(t, "\x80\xff\x01\x80\x01\x7f", "\x80\xff", 1, 128, 127)
	expectPut(t, "\x00\x00\x00", "", 0, 0, 0)
	expectPut(t, strings.Repeat("\xac\x02", 1000), "", slices.Repeat([]uint64{300}, 1000)...)
}

func TestWhatIsHandedInStays(t *testing.T) {
	all := []uint64{300, 1, 7, 8, 9}
	kept := slices.Clone(all)
	b := "\xac\x02ab"
	first := wire.Put(b, all[:2]...)
	second := wire.Put(b, all[:3]...)
	if !slices.Equal(all, kept) {
		t.Errorf("the numbers are %d now", all)
	}
	if first != "\xac\x02ab\xac\x02\x01" || second != "\xac\x02ab\xac\x02\x01\x07" || b != "\xac\x02ab" {
		t.Errorf("%q, %q out of %q", first, second, b)
	}
	all[0], all[1] = 5, 5
	if first != "\xac\x02ab\xac\x02\x01" {
		t.Errorf("what was put is %q now", first)
	}
}

func TestPlaces(t *testing.T) {
	for _, b := range []string{"", "\x05", "\x01a\x2c\x29\x0c\xe4", "\x80\x80", strings.Repeat("\xff", 20)} {
		for _, at := range []int{-1, -2, least, len(b) + 1, len(b) + 2, most, most - 9} {
			expectTake(t, b, at, 0, at, api.ErrArg)
			expectTakeText(t, b, at, "", at, api.ErrArg)
			expectUnframe(t, b, at, "", at, api.ErrArg)
		}
		expectTake(t, b, len(b), 0, len(b), short)
		expectTakeText(t, b, len(b), "", len(b), short)
		expectUnframe(t, b, len(b), "", len(b), short)
	}
	b := "\x05\xac\x02\x80\x00\x07"
	expectTake(t, b, 0, 5, 1, api.OK)
	expectTake(t, b, 1, 300, 3, api.OK)
	expectTake(t, b, 2, 2, 3, api.OK)
	expectTake(t, b, 3, 0, 3, long)
	expectTake(t, b, 4, 0, 5, api.OK)
	expectTake(t, b, 5, 7, 6, api.OK)
}

// A last byte of 0 behind others is none, however many stand ahead of it.
func TestALastByteOfNought(t *testing.T) {
	expectTake(t, "\x00", 0, 0, 1, api.OK)
	for _, ahead := range []string{"\x80", "\x81", "\xff"} {
		for many := 1; many <= 12; many++ {
			b := strings.Repeat(ahead, many) + "\x00"
			expectTake(t, b, 0, 0, 0, long)
			expectTake(t, b+"\x01", 0, 0, 0, long)
			expectTakeText(t, b+"\x01", 0, "", 0, long)
			expectUnframe(t, "z"+b+"\x01", 1, "", 1, long)
		}
	}
}

func TestTheTenthByte(t *testing.T) {
	for _, ahead := range []string{"\x80", "\x81", "\xff"} {
		nine := strings.Repeat(ahead, 9)
		for c := range 256 {
			b := nine + string([]byte{byte(c)})
			for _, behind := range []string{"", "\x00", "\x01", "\xff"} {
				if c == 1 {
					n := uint64(1) << 63
					for group := range 9 {
						n |= uint64(ahead[0]&127) << (7 * group)
					}
					expectTake(t, b+behind, 0, n, 10, api.OK)
					continue
				}
				expectTake(t, b+behind, 0, 0, 0, long)
			}
		}
	}
}

// Bytes of 128 and more where nothing follows: up to nine of them could go on to be a number.
func TestWhereNothingFollows(t *testing.T) {
	for _, c := range []string{"\x80", "\x81", "\xff"} {
		for many := 0; many <= 9; many++ {
			b := strings.Repeat(c, many)
			expectTake(t, b, 0, 0, 0, short)
			expectTake(t, "\x01"+b, 1, 0, 1, short)
			expectTakeText(t, b, 0, "", 0, short)
			expectUnframe(t, b, 0, "", 0, short)
		}
		for many := 10; many <= 13; many++ {
			b := strings.Repeat(c, many)
			expectTake(t, b, 0, 0, 0, long)
			expectTake(t, b+"\x01", 0, 0, 0, long)
			expectTake(t, "\x01"+b, 1, 0, 1, long)
			expectTakeText(t, b, 0, "", 0, long)
			expectUnframe(t, b, 0, "", 0, long)
		}
	}
}

func TestZigAndZagAtTheirEdges(t *testing.T) {
	expectZig(t, 2, 4)
	expectZig(t, most, greatest-1)
	expectZig(t, most-1, greatest-3)
	expectZig(t, least, greatest)
	expectZig(t, least+1, greatest-2)
	expectZig(t, 1<<62, 1<<63)
	expectZig(t, -1<<62, 1<<63-1)
	expectZig(t, 1<<32, 1<<33)
	expectZig(t, -1<<32, 1<<33-1)
	for n, want := range []int64{0, -1, 1, -2, 2} {
		if got := wire.Zag(uint64(n)); got != want {
			t.Errorf("Zag(%d) is %d; want %d", n, got, want)
		}
	}
}

func TestTexts(t *testing.T) {
	for _, c := range []struct{ b, s, want string }{
		{"", "", "\x00"},
		{"", "abc", "\x03abc"},
		{"xy", "", "xy\x00"},
		{"xy", "a", "xy\x01a"},
		{"\x80", "\x00\xff", "\x80\x02\x00\xff"},
		{"", "\u00e9", "\x02\xc3\xa9"},
	} {
		if got := wire.PutText(c.b, c.s); got != c.want {
			t.Errorf("PutText(%q, %q) is %q; want %q", c.b, c.s, got, c.want)
		}
		expectTakeText(t, c.want, len(c.b), c.s, len(c.want), api.OK)
	}
	// As many bytes as the text tells, one fewer, none; one more is left alone.
	expectTakeText(t, "\x03abc", 0, "abc", 4, api.OK)
	expectTakeText(t, "\x03abcd", 0, "abc", 4, api.OK)
	expectTakeText(t, "\x03ab", 0, "", 0, short)
	expectTakeText(t, "\x03", 0, "", 0, short)
	expectTakeText(t, "zz\x03ab", 2, "", 2, short)
	expectTakeText(t, "\x00", 0, "", 1, api.OK)
	expectTakeText(t, "\x00x", 0, "", 1, api.OK)
	expectTakeText(t, "", 0, "", 0, short)
	expectTakeText(t, "\x01", 0, "", 0, short)
	expectTakeText(t, "\x80\x00", 0, "", 0, long)
}

func TestTheLongestTexts(t *testing.T) {
	for _, size := range []int{127, 128, 16383, 16384, 65535, 65536} {
		s := strings.Repeat("q", size)
		b := wire.PutText("x", s)
		if want := wire.Put("x", uint64(size)) + s; b != want {
			t.Errorf("PutText of %d bytes is %q", size, told(b))
		}
		expectTakeText(t, b, 1, s, len(b), api.OK)
		expectTakeText(t, b+"q", 1, s, len(b), api.OK)
		expectTakeText(t, b[:len(b)-1], 1, "", 1, short)
		expectTakeText(t, b[:len(b)-size], 1, "", 1, short)

		f := framed(t, s)
		expectUnframe(t, f, 0, s, len(f), api.OK)
		expectUnframe(t, "zz"+f+"qq", 2, s, len(f)+2, api.OK)
		expectUnframe(t, f[:len(f)-1], 0, "", 0, short)
	}
}

// A text too long is written, but neither read nor framed, however few of its bytes are left.
func TestTextsTooLong(t *testing.T) {
	for _, size := range []int{65537, 65538, 131072} {
		s := strings.Repeat("q", size)
		b := wire.PutText("x", s)
		if want := wire.Put("x", uint64(size)) + s; b != want {
			t.Errorf("PutText of %d bytes is %q", size, told(b))
		}
		expectTakeText(t, b, 1, "", 1, long)
		expectTakeText(t, b[:len(b)-1], 1, "", 1, long)
		expectUnframe(t, b+"\x00\x00\x00\x00", 1, "", 1, long)
		if f, e := wire.Frame(s); f != "" || e != long {
			t.Errorf("Frame of %d bytes is %q, %d", size, told(f), e)
		}
	}
	for _, n := range []uint64{65537, 1 << 31, 1 << 32, 1<<32 + 1, most - 3, most, 1 << 63, greatest - 1, greatest} {
		b := wire.Put("x", n)
		expectTakeText(t, b, 1, "", 1, long)
		expectTakeText(t, b+"abcd", 1, "", 1, long)
		expectUnframe(t, b+"abcd", 1, "", 1, long)
	}
	expectTakeText(t, wire.Put("", 65536), 0, "", 0, short)
	expectUnframe(t, wire.Put("", 65536)+"abcd", 0, "", 0, short)
}

func TestSumsOfKnownTexts(t *testing.T) {
	for b, want := range map[string]uint32{
		"":         0x811c9dc5,
		"a":        0xe40c292c,
		"b":        0xe70c2de5,
		"hello":    0x4f9f2cab,
		"foobar":   0xbf9cf968,
		"\x00":     0x050c5d1f,
		"\xff":     (2166136261 ^ 255) * 16777619 % (1 << 32),
		"\x00\x00": (2166136261 * 16777619 % (1 << 32)) * 16777619 % (1 << 32),
	} {
		if got := wire.Sum(b); got != want {
			t.Errorf("Sum(%q) is %#x; want %#x", b, got, want)
		}
	}
}

func TestFrames(t *testing.T) {
	if f := framed(t, ""); f != "\x00\xc5\x9d\x1c\x81" {
		t.Errorf("Frame of nothing is %q", f)
	}
	expectUnframe(t, "\x00\xc5\x9d\x1c\x81", 0, "", 5, api.OK)
	f := framed(t, "abc")
	for _, b := range []string{f, f + "z", f + f, f + "\x00\x00\x00\x00"} {
		expectUnframe(t, b, 0, "abc", 8, api.OK)
		expectUnframe(t, "q\x80"+b, 2, "abc", 10, api.OK)
	}
	expectUnframe(t, f+f, 8, "abc", 16, api.OK)
	// Three bytes of a check are too few, whatever they are.
	for left := range 4 {
		expectUnframe(t, f[:4+left], 0, "", 0, short)
		expectUnframe(t, "z"+f[:4]+"\x00\x00\x00\x00"[:left], 1, "", 1, short)
	}
	expectUnframe(t, f[:4]+"\x00\x00\x00\x00", 0, "", 0, wrongSum)
	// The check stands lowest byte first, and is that of the content alone.
	expectUnframe(t, f[:4]+string([]byte{f[7], f[6], f[5], f[4]}), 0, "", 0, wrongSum)
	withLength := wire.Sum("\x03abc")
	expectUnframe(t, f[:4]+string([]byte{byte(withLength), byte(withLength >> 8), byte(withLength >> 16), byte(withLength >> 24)}), 0, "", 0, wrongSum)
	if f[:4] != "\x03abc" {
		t.Errorf("a frame begins with %q", f[:4])
	}
}

func TestTheSameAgain(t *testing.T) {
	f := framed(t, "abc")
	for range 3 {
		expectUnframe(t, f, 0, "abc", 8, api.OK)
		expectUnframe(t, f[:7], 0, "", 0, short)
		expectTake(t, "\xac\x02", 0, 300, 2, api.OK)
		expectPut(t, "\xac\x02", "", 300)
	}
}
