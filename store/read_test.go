package store_test

import (
	"encoding/binary"
	"strings"
	"testing"

	"tripwire/api"
	"tripwire/store"
)

// numbers are numbers as they are written.
func numbers(l ...uint64) string {
	var b []byte
	for _, n := range l {
		b = binary.AppendUvarint(b, n)
	}
	return string(b)
}

// longer is a number's bytes with a nought behind them that need not be.
func longer(b string) string {
	return b[:len(b)-1] + string([]byte{b[len(b)-1] | 128, 0})
}

// Of any place: below the first, in the midst, at the end, beyond it.
func TestPlaces(t *testing.T) {
	for _, s := range samples() {
		b := s.bytes()
		for _, at := range []int{least, -len(b), -1, len(b), len(b) + 1, len(b) + 10, 1 << 32, greatest - 1, greatest} {
			expectNoRead(t, b, at)
			expectNoRead(t, "", at)
		}
		for at := range len(b) + 3 {
			c, to, is := modelRead(b, at)
			if is {
				expectRead(t, b, at, c, to)
			} else {
				expectNoRead(t, b, at)
			}
		}
		expectNoRead(t, "", 0)
	}
	// In the midst there may stand another command: it is read.
	expectRead(t, "\x01\x02\x04\x06\x14\x0e", 2, tick(3), 4)
	expectRead(t, "\x04\x09", 1, book(), 2)
}

// Commands one behind the other, each from the place behind the one ahead of it.
func TestOneBehindTheOther(t *testing.T) {
	var b strings.Builder
	for _, s := range samples() {
		b.WriteString(s.bytes())
	}
	at := 0
	for _, s := range samples() {
		expectRead(t, b.String(), at, s.c, at+len(s.bytes()))
		at += len(s.bytes())
	}
	expectNoRead(t, b.String(), at)
}

// Bytes that are cut off at each place are no command's; what stands behind does not matter.
func TestCutOff(t *testing.T) {
	for _, s := range samples() {
		b := s.bytes()
		for n := range b {
			expectNoRead(t, b[:n], 0)
			expectNoRead(t, "\x09"+b[:n], 1)
		}
		for _, behind := range []string{"\x00", "\x01", "\x80", "\xff\xff", b, blanks(1000)} {
			expectRead(t, b+behind, 0, s.c, len(b))
		}
	}
}

// A number that is written longer than it need be, in each place of each command, is none; nor is one that leaves 64 bits.
func TestNumbersThatAreNone(t *testing.T) {
	for _, s := range samples() {
		for k, part := range s.parts {
			if s.c.Op == api.OpUpload && k == 3 {
				continue
			}
			for _, instead := range []string{
				longer(part), longer(longer(part)), strings.Repeat("\x80", 9) + "\x02", strings.Repeat("\xff", 9) + "\x02", strings.Repeat("\xff", 9) + "\x7f", strings.Repeat("\xff", 10) + "\x01", strings.Repeat("\x80", 10) + "\x00", strings.Repeat("\x80", 12),
			} {
				parts := append([]string{}, s.parts...)
				parts[k] = instead
				expectNoRead(t, strings.Join(parts, "")+strings.Repeat("\x00", 20), 0)
			}
		}
	}
}

// An Op, a Kind, a Side above 255 is none, whatever its lowest eight bits say.
func TestAbove255(t *testing.T) {
	for _, n := range []uint64{256, 257, 258, 259, 256 + 4, 256 + 9, 256 + 11, 511, 512, 513, 1<<16 + 1, 1<<31 + 1, 1<<32 + 1, 1<<32 + 9, 1<<63 + 1, 1<<63 + 9, 1<<64 - 1, 1<<64 - 256 + 1} {
		expectNoRead(t, numbers(n, 2, 1, 1, 20, 14), 0)
		expectNoRead(t, numbers(n), 0)
		expectNoRead(t, numbers(1, 2, n, 1, 20, 14), 0)
		expectNoRead(t, numbers(1, 2, 1, n, 20, 14), 0)
		expectNoRead(t, numbers(1, 2, n, n, 20, 14), 0)
	}
	for _, n := range []uint64{0, 1, 127, 128, 254, 255} {
		expectRead(t, numbers(1, 2, n, 1, 20, 14), 0, enter(1, api.Kind(n), api.Buy, 10, 7), len(numbers(n))+5)
		expectRead(t, numbers(1, 2, 1, n, 20, 14), 0, enter(1, api.Limit, api.Side(n), 10, 7), len(numbers(n))+5)
	}
}

// Texts that are none: longer than they may be, or than what is left.
func TestTextsThatAreNone(t *testing.T) {
	for _, size := range []uint64{1, 2, 127, 128, 65535, 65536, 65537, 1 << 31, 1 << 32, 1 << 63, 1<<64 - 1} {
		for _, left := range []string{"", blanks(int(min(size, 70000)) - 1)} {
			expectNoRead(t, "\x05\x02"+numbers(size)+left, 0)
		}
	}
	expectRead(t, "\x05\x02\x02abc", 0, upload(1, "ab"), 5)
	expectRead(t, "\x05\x02\x00abc", 0, upload(1, ""), 3)
	expectNoRead(t, "\x05\x02\x80\x00abc", 0)
}

// expectModel tells whether Read of bytes is as the model has it, and whether they are written again, byte by byte, where it takes them.
func expectModel(t *testing.T, b string, at int) bool {
	t.Helper()
	want, to, is := modelRead(b, at)
	if !is {
		expectNoRead(t, b, at)
		return false
	}
	expectRead(t, b, at, want, to)
	if again, no := store.Command(want); again != b[at:to] || no != api.OK {
		t.Errorf("%s is read of %s, and written as %s, %d", short(want), short(b[at:to]), short(again), no)
	}
	return true
}

// All bytes of up to two, and all of three and four of those at which something becomes another thing.
func TestAllShortBytes(t *testing.T) {
	reached := map[bool]int{}
	for a := range 256 {
		reached[expectModel(t, string([]byte{byte(a)}), 0)]++
		for b := range 256 {
			reached[expectModel(t, string([]byte{byte(a), byte(b)}), 0)]++
		}
	}
	edges := []byte{0, 1, 2, 3, 5, 9, 11, 12, 127, 128, 129, 255}
	for _, a := range edges {
		for _, b := range edges {
			for _, c := range edges {
				reached[expectModel(t, string([]byte{a, b, c}), 0)]++
				for _, d := range edges {
					reached[expectModel(t, string([]byte{a, b, c, d}), 0)]++
				}
			}
		}
	}
	expectReached(t, reached, 1000, true, false)
}

// Drawn bytes, and commands' bytes with slips, at any place, against the model.
func TestDrawnBytes(t *testing.T) {
	reached := map[bool]int{}
	for seed := range uint64(20) {
		d := drawn(seed + 1000)
		for range 2000 {
			b, _ := modelBytes(d.anything())
			bytes := []byte(b)
			for range d.below(4) {
				switch at := d.below(len(bytes) + 1); {
				case d.below(3) == 0:
					bytes = append(bytes[:at:at], append([]byte{byte(d.number(0, 1, 127, 128, 255, d.below(256)))}, bytes[at:]...)...)
				case at == len(bytes):
				case d.below(2) == 0:
					bytes[at] = byte(d.number(0, 1, 2, 127, 128, 255, d.below(256)))
				default:
					bytes = append(bytes[:at:at], bytes[at+1:]...)
				}
			}
			reached[expectModel(t, string(bytes), 0)]++
			reached[expectModel(t, string(bytes), d.below(len(bytes)+3)-1)]++
		}
	}
	expectReached(t, reached, 5000, true, false)
}
