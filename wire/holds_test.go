package wire_test

import (
	"encoding/binary"
	"hash/fnv"
	"math/big"
	"slices"
	"strings"
	"testing"

	"tripwire/api"
	"tripwire/wire"
)

// The tests of this file hold the calls against a model: the chapter's words taken one by one, with numbers without bounds.

// draw gives words and bytes, the same ones in each run.
type draw uint64

func (d *draw) word() uint64 {
	*d += 0x9e3779b97f4a7c15
	z := uint64(*d)
	z = (z ^ z>>30) * 0xbf58476d1ce4e5b9
	z = (z ^ z>>27) * 0x94d049bb133111eb
	return z ^ z>>31
}

func (d *draw) below(n int) int {
	return int(d.word() % uint64(n))
}

// number is one of any length.
func (d *draw) number() uint64 {
	short := d.below(64)
	return d.word() >> short
}

// bytes are at most so many, often ones at which something turns.
func (d *draw) bytes(most int) string {
	turns := "\x00\x01\x02\x04\x7f\x80\x81\xfe\xff"
	out := make([]byte, d.below(most+1))
	for i := range out {
		out[i] = byte(d.word())
		if d.below(2) == 0 {
			out[i] = turns[d.below(len(turns))]
		}
	}
	return string(out)
}

// modelTake looks at the bytes up to the first one below 128, at most ten.
func modelTake(b string, at int) (uint64, int, api.Errno) {
	if at < 0 || at > len(b) {
		return 0, at, api.ErrArg
	}
	looked := []byte(b[at:])
	last := slices.IndexFunc(looked, func(c byte) bool { return c < 128 })
	if last >= 0 {
		looked = looked[:last+1]
	}
	if last < 0 && len(looked) < 10 {
		return 0, at, short
	}
	if last < 0 || len(looked) > 10 {
		return 0, at, long
	}
	n := new(big.Int)
	for _, c := range slices.Backward(looked) {
		n.Lsh(n, 7)
		n.Add(n, big.NewInt(int64(c&127)))
	}
	if !n.IsUint64() || len(looked) != modelSize(n.Uint64()) {
		return 0, at, long
	}
	return n.Uint64(), at + len(looked), api.OK
}

// modelSize is the least number of groups that hold a number.
func modelSize(n uint64) int {
	size := 1
	for new(big.Int).Lsh(big.NewInt(1), uint(7*size)).Cmp(new(big.Int).SetUint64(n)) <= 0 {
		size++
	}
	return size
}

func modelTakeText(b string, at int) (string, int, api.Errno) {
	n, from, e := modelTake(b, at)
	switch {
	case e != api.OK:
		return "", at, e
	case n > 65536:
		return "", at, long
	case uint64(len(b)-from) < n:
		return "", at, short
	}
	return b[from:][:n], from + int(n), api.OK
}

func modelUnframe(b string, at int) (string, int, api.Errno) {
	s, to, e := modelTakeText(b, at)
	switch {
	case e != api.OK:
		return "", at, e
	case len(b) < to+4:
		return "", at, short
	case binary.LittleEndian.Uint32([]byte(b[to:])) != modelSum(s):
		return "", at, wrongSum
	}
	return s, to + 4, api.OK
}

func modelSum(b string) uint32 {
	h := fnv.New32a()
	h.Write([]byte(b))
	return h.Sum32()
}

// expectModel holds all that read against the model, at one place.
func expectModel(t *testing.T, b string, at int) {
	t.Helper()
	n, to, e := modelTake(b, at)
	expectTake(t, b, at, n, to, e)
	s, to, e := modelTakeText(b, at)
	expectTakeText(t, b, at, s, to, e)
	s, to, e = modelUnframe(b, at)
	expectUnframe(t, b, at, s, to, e)
}

// rows goes through all rows of at most so many bytes out of an alphabet.
func rows(alphabet string, most int) func(yield func(b string) bool) {
	return func(yield func(b string) bool) {
		var grow func(b string) bool
		grow = func(b string) bool {
			if !yield(b) {
				return false
			}
			for i := 0; len(b) < most && i < len(alphabet); i++ {
				if !grow(b + alphabet[i:i+1]) {
					return false
				}
			}
			return true
		}
		grow("")
	}
}

func TestEveryShortRow(t *testing.T) {
	for b := range rows("\x00\x01\x02\x7f\x80\x81\xff", 5) {
		expectModel(t, b, 0)
		expectModel(t, "\x03"+b, 1)
	}
}

// Behind so many bytes of 128 and more a number comes to its end, or goes too far.
func TestEveryShortRowBehindALongOne(t *testing.T) {
	for many := 5; many <= 11; many++ {
		for _, c := range []string{"\x80", "\x83", "\xff"} {
			for b := range rows("\x00\x01\x02\x7f\x80\xff", 3) {
				expectModel(t, strings.Repeat(c, many)+b, 0)
			}
		}
	}
}

func TestDrawnRows(t *testing.T) {
	d := draw(1)
	for range 30000 {
		b := d.bytes(24)
		for at := -1; at <= len(b)+1; at++ {
			expectModel(t, b, at)
		}
		if t.Failed() {
			return
		}
	}
}

func TestNumbersThereAndBack(t *testing.T) {
	d := draw(2)
	for range 50000 {
		l := make([]uint64, d.below(5))
		ahead, behind := d.bytes(12), d.bytes(12)
		model := []byte(ahead)
		for i := range l {
			l[i] = d.number()
			model = binary.AppendUvarint(model, l[i])
		}
		b := wire.Put(ahead, l...)
		if b != string(model) {
			t.Fatalf("Put(%q, %d) is %q; want %q", ahead, l, b, model)
		}
		at := len(ahead)
		for _, want := range l {
			n, to, e := wire.Take(b+behind, at)
			if n != want || e != api.OK || to != at+wire.Size(want) {
				t.Fatalf("Take(%q, %d) is %d, %d, %d; %d was put", b+behind, at, n, to, e, want)
			}
			at = to
		}
		if at != len(b) {
			t.Fatalf("%q is read to %d alone", b, at)
		}
	}
}

func TestTextsThereAndBack(t *testing.T) {
	d := draw(3)
	for range 20000 {
		ahead, s, behind := d.bytes(12), d.bytes(300), d.bytes(12)
		b := wire.PutText(ahead, s)
		if want := string(binary.AppendUvarint([]byte(ahead), uint64(len(s)))) + s; b != want {
			t.Fatalf("PutText(%q, %q) is %q", ahead, s, b)
		}
		expectTakeText(t, b+behind, len(ahead), s, len(b), api.OK)
		f := framed(t, s)
		expectUnframe(t, ahead+f+behind, len(ahead), s, len(ahead)+len(f), api.OK)
		if t.Failed() {
			return
		}
	}
}

func TestZigAndZagThereAndBack(t *testing.T) {
	check := func(n uint64) {
		if again := wire.Zig(wire.Zag(n)); again != n {
			t.Errorf("Zig of Zag(%d) is %d", n, again)
		}
		signed := int64(n)
		if again := wire.Zag(wire.Zig(signed)); again != signed {
			t.Errorf("Zag of Zig(%d) is %d", signed, again)
		}
		want := new(big.Int).Mul(big.NewInt(2), big.NewInt(signed))
		if signed < 0 {
			want.Neg(want)
			want.Sub(want, big.NewInt(1))
		}
		if !want.IsUint64() || wire.Zig(signed) != want.Uint64() {
			t.Errorf("Zig(%d) is %d; want %d", signed, wire.Zig(signed), want)
		}
	}
	for bit := range 64 {
		for off := range uint64(5) {
			check(1<<bit + off - 2)
			check(-(1 << bit) + off - 2)
		}
	}
	d := draw(4)
	for range 20000 {
		check(d.number())
		check(-d.number())
	}
}

// What is taken is written again byte by byte: so nothing has two forms.
func TestWhatIsTakenIsWrittenAgain(t *testing.T) {
	d := draw(5)
	taken := [3]int{}
	for range 60000 {
		b := d.bytes(14)
		if d.below(2) == 0 {
			f := framed(t, d.bytes(6))
			b = f + d.bytes(3)
		}
		if n, to, e := wire.Take(b, 0); e == api.OK {
			taken[0]++
			expectPut(t, b[:to], "", n)
		}
		if s, to, e := wire.TakeText(b, 0); e == api.OK {
			taken[1]++
			if again := wire.PutText("", s); again != b[:to] {
				t.Fatalf("%q is written again as %q", b[:to], again)
			}
		}
		if s, to, e := wire.Unframe(b, 0); e == api.OK {
			taken[2]++
			if again := framed(t, s); again != b[:to] {
				t.Fatalf("%q is framed again as %q", b[:to], again)
			}
		}
	}
	for i, many := range taken {
		if many < 10000 {
			t.Errorf("only %d were taken (%d)", many, i)
		}
	}
}

func TestSumsAreTheModels(t *testing.T) {
	d := draw(6)
	for range 20000 {
		b := d.bytes(60)
		if got, want := wire.Sum(b), modelSum(b); got != want {
			t.Fatalf("Sum(%q) is %d; want %d", b, got, want)
		}
	}
	long := strings.Repeat("\xfftripwire\x00", 100000)
	if got, want := wire.Sum(long), modelSum(long); got != want {
		t.Errorf("Sum of a long row is %d; want %d", got, want)
	}
}

// changed is bytes with another one at a place.
func changed(b string, at int, c byte) string {
	return b[:at] + string([]byte{c}) + b[at+1:]
}

func TestEveryOtherByteOfAFrame(t *testing.T) {
	d := draw(7)
	contents := []string{"", "a", "\x00", "\x00\x00\x00\x00", "abc", "\xff\xfe\x80", strings.Repeat("z", 127), strings.Repeat("z", 128)}
	for range 20 {
		contents = append(contents, d.bytes(20))
	}
	for _, s := range contents {
		f := framed(t, s)
		ahead := wire.Size(uint64(len(s)))
		for at := range len(f) {
			for c := range 256 {
				if byte(c) == f[at] {
					continue
				}
				b := "q" + changed(f, at, byte(c))
				if at >= ahead {
					expectUnframe(t, b, 1, "", 1, wrongSum)
					expectUnframe(t, b+"q", 1, "", 1, wrongSum)
				}
				expectModel(t, b, 1)
			}
		}
		if t.Failed() {
			return
		}
	}
}

func TestOtherBytesOfTheLongestFrame(t *testing.T) {
	f := framed(t, strings.Repeat("tripwire", api.MaxWireText/8))
	d := draw(8)
	places := []int{3, 4, len(f) - 6, len(f) - 5, len(f) - 4, len(f) - 3, len(f) - 2, len(f) - 1}
	for range 200 {
		places = append(places, 3+d.below(len(f)-3))
	}
	for _, at := range places {
		expectUnframe(t, changed(f, at, f[at]^byte(1<<d.below(8))), 0, "", 0, wrongSum)
	}
}
