package wire_test

import (
	"math"
	"strings"
	"testing"

	"tripwire/api"
	"tripwire/wire"
)

const (
	least    = math.MinInt64
	most     = math.MaxInt64
	greatest = math.MaxUint64
	short    = api.ErrWireShort
	long     = api.ErrWireLong
	wrongSum = api.ErrWireSum
)

// told is bytes as a message tells them: a long row is cut.
func told(b string) string {
	if len(b) > 40 {
		return b[:40] + ".."
	}
	return b
}

func expectPut(t *testing.T, want, b string, l ...uint64) {
	t.Helper()
	if got := wire.Put(b, l...); got != want {
		t.Errorf("Put(%q, %d) is %q; want %q", told(b), l, told(got), told(want))
	}
}

func expectTake(t *testing.T, b string, at int, wantN uint64, wantTo int, wantErr api.Errno) {
	t.Helper()
	if n, to, e := wire.Take(b, at); n != wantN || to != wantTo || e != wantErr {
		t.Errorf("Take(%q, %d) is %d, %d, %d; want %d, %d, %d", told(b), at, n, to, e, wantN, wantTo, wantErr)
	}
}

func expectTakeText(t *testing.T, b string, at int, want string, wantTo int, wantErr api.Errno) {
	t.Helper()
	if s, to, e := wire.TakeText(b, at); s != want || to != wantTo || e != wantErr {
		t.Errorf("TakeText(%q, %d) is %q, %d, %d; want %q, %d, %d", told(b), at, told(s), to, e, told(want), wantTo, wantErr)
	}
}

func expectUnframe(t *testing.T, b string, at int, want string, wantTo int, wantErr api.Errno) {
	t.Helper()
	if s, to, e := wire.Unframe(b, at); s != want || to != wantTo || e != wantErr {
		t.Errorf("Unframe(%q, %d) is %q, %d, %d; want %q, %d, %d", told(b), at, told(s), to, e, told(want), wantTo, wantErr)
	}
}

// framed is the frame of bytes that may be framed.
func framed(t *testing.T, b string) string {
	t.Helper()
	f, e := wire.Frame(b)
	if e != api.OK {
		t.Fatalf("Frame(%q) is %d", told(b), e)
	}
	return f
}

func expectZig(t *testing.T, n int64, want uint64) {
	t.Helper()
	if got := wire.Zig(n); got != want {
		t.Errorf("Zig(%d) is %d; want %d", n, got, want)
	}
	if got := wire.Zag(want); got != n {
		t.Errorf("Zag(%d) is %d; want %d", want, got, n)
	}
}

// TestExamples has the chapter's examples, and those within its text.
func TestExamples(t *testing.T) {
	expectPut(t, "\xac\x02\x00", "", 300, 0)
	expectTake(t, "\xac\x02", 0, 300, 2, api.OK)
	expectTake(t, "\xac", 0, 0, 0, short)
	expectTake(t, "\x80\x00", 0, 0, 0, long)
	expectTake(t, strings.Repeat("\xff", 10)+"\x01", 0, 0, 0, long)
	expectTake(t, strings.Repeat("\xff", 9)+"\x01", 0, greatest, 10, api.OK)
	expectTake(t, "\x05", 1, 0, 1, short)
	expectTake(t, "\x05", 2, 0, 2, api.ErrArg)

	expectZig(t, 0, 0)
	expectZig(t, -1, 1)
	expectZig(t, 1, 2)
	expectZig(t, -2, 3)
	expectZig(t, -9223372036854775808, 18446744073709551615)

	if c := wire.Sum(""); c != 2166136261 {
		t.Errorf("Sum of nothing is %d", c)
	}
	if c := wire.Sum("a"); c != 3826002220 {
		t.Errorf("Sum of a is %d", c)
	}
	if f := framed(t, "a"); f != "\x01\x61\x2c\x29\x0c\xe4" {
		t.Errorf("Frame of a is %q", f)
	}
	expectUnframe(t, "\x01\x61\x2c\x29\x0c\xe4", 0, "a", 6, api.OK)
	expectUnframe(t, "\x01\x61\x2c\x29\x0c\xe5", 0, "", 0, wrongSum)
}
