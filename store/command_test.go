package store_test

import (
	"strings"
	"testing"

	"tripwire/api"
	"tripwire/store"
)

// sample is a command, and its bytes, part by part.
type sample struct {
	c     api.Command
	parts []string
}

func (s sample) bytes() string { return strings.Join(s.parts, "") }

const (
	leastBytes    = "\xff\xff\xff\xff\xff\xff\xff\xff\xff\x01"
	greatestBytes = "\xfe\xff\xff\xff\xff\xff\xff\xff\xff\x01"
)

// samples are commands of each Op, with small numbers, and with great ones.
func samples() []sample {
	return []sample{
		{enter(1, api.Limit, api.Buy, 10, 7), []string{"\x01", "\x02", "\x01", "\x01", "\x14", "\x0e"}},
		{enter(2, api.Market, api.Sell, 0, 64), []string{"\x01", "\x04", "\x02", "\x02", "\x00", "\x80\x01"}},
		{enter(-1, 0, 0, -1, -65), []string{"\x01", "\x01", "\x00", "\x00", "\x01", "\x81\x01"}},
		{enter(least, 255, 255, greatest, least), []string{"\x01", leastBytes, "\xff\x01", "\xff\x01", greatestBytes, leastBytes}},
		{enter(greatest, 127, 128, least, greatest), []string{"\x01", greatestBytes, "\x7f", "\x80\x01", leastBytes, greatestBytes}},
		{amend(1, 2, 3, 4), []string{"\x02", "\x02", "\x04", "\x06", "\x08"}},
		{amend(0, 0, 0, 0), []string{"\x02", "\x00", "\x00", "\x00", "\x00"}},
		{amend(least, greatest, least, greatest), []string{"\x02", leastBytes, greatestBytes, leastBytes, greatestBytes}},
		{cancel(1, 2), []string{"\x03", "\x02", "\x04"}},
		{cancel(-2, 1000000000), []string{"\x03", "\x03", "\x80\xa8\xd6\xb9\x07"}},
		{tick(5), []string{"\x04", "\x0a"}},
		{tick(-1), []string{"\x04", "\x01"}},
		{tick(least), []string{"\x04", leastBytes}},
		{tick(greatest), []string{"\x04", greatestBytes}},
		{upload(1, "ab"), []string{"\x05", "\x02", "\x02", "ab"}},
		{upload(0, ""), []string{"\x05", "\x00", "\x00"}},
		{upload(greatest, "\x00\xff\x80\n"), []string{"\x05", greatestBytes, "\x04", "\x00\xff\x80\n"}},
		{upload(1, blanks(128)), []string{"\x05", "\x02", "\x80\x01", blanks(128)}},
		{start(1, 2), []string{"\x06", "\x02", "\x04"}},
		{start(least, greatest), []string{"\x06", leastBytes, greatestBytes}},
		{stop(1, 2), []string{"\x07", "\x02", "\x04"}},
		{stop(greatest, least), []string{"\x07", greatestBytes, leastBytes}},
		{drop(1, 2), []string{"\x08", "\x02", "\x04"}},
		{drop(0, -1), []string{"\x08", "\x00", "\x01"}},
		{book(), []string{"\x09"}},
		{status(3), []string{"\x0a", "\x06"}},
		{status(least), []string{"\x0a", leastBytes}},
		{quota(3), []string{"\x0b", "\x06"}},
		{quota(greatest), []string{"\x0b", greatestBytes}},
	}
}

// Each row of the table of Ops, by bytes that are written out; and with something in each place that its Op does not name, which is neither written nor read.
func TestEachOp(t *testing.T) {
	for _, s := range samples() {
		expectBytes(t, s.c, s.bytes())
		expectBytes(t, noisy(s.c), s.bytes())
	}
}

// Each number of each Op, in its own place, at each edge: no two change places, and none is cut.
func TestEachNumber(t *testing.T) {
	edges := []int64{0, 1, -1, 2, 63, 64, -64, -65, 127, 128, 255, 256, 1 << 31, -1 << 31, 1 << 32, 1<<62 - 1, 1 << 62, -1 << 62, least, least + 1, greatest - 1, greatest}
	base := api.Command{Client: 11, Entry: api.Entry{Client: 12, Kind: 13, Side: 14, Price: 15, Qty: 16}, ID: 17, Price: 18, Qty: 19, Time: 20, Source: "source"}
	for op := api.OpEnter; op <= api.OpQuota; op++ {
		for _, n := range edges {
			for _, turn := range []func(c *api.Command){
				func(c *api.Command) { c.Client = int(n) },
				func(c *api.Command) { c.Entry.Client = int(n) },
				func(c *api.Command) { c.Entry.Price = n },
				func(c *api.Command) { c.Entry.Qty = n },
				func(c *api.Command) { c.ID = int(n) },
				func(c *api.Command) { c.Price = n },
				func(c *api.Command) { c.Qty = n },
				func(c *api.Command) { c.Time = n },
			} {
				c := base
				c.Op = op
				turn(&c)
				want, _ := modelBytes(c)
				expectBytes(t, c, want)
			}
		}
	}
}

// Op, Kind and Side are written as they are: not by Zig.
func TestKindsAndSides(t *testing.T) {
	for n := range 256 {
		as := string([]byte{byte(n)})
		if n >= 128 {
			as = string([]byte{byte(n), 1})
		}
		expectBytes(t, enter(1, api.Kind(n), api.Sell, 10, 7), "\x01\x02"+as+"\x02\x14\x0e")
		expectBytes(t, enter(1, api.Post, api.Side(n), 10, 7), "\x01\x02\x05"+as+"\x14\x0e")
		both := enter(1, api.Kind(n), api.Side(255-n), 10, 7)
		want, _ := modelBytes(both)
		expectBytes(t, both, want)
	}
}

// An Op that is none is refused, whatever else the command says.
func TestOpsThatAreNone(t *testing.T) {
	for op := range 256 {
		if op >= 1 && op <= 11 {
			continue
		}
		for _, s := range samples() {
			c := s.c
			c.Op = api.Op(op)
			expectNoBytes(t, c)
			c = noisy(s.c)
			c.Op = api.Op(op)
			expectNoBytes(t, c)
		}
		expectNoBytes(t, api.Command{Op: api.Op(op), Source: blanks(mostText + 1)})
		// Nor is it read, whatever stands behind it.
		as := string([]byte{byte(op)})
		if op >= 128 {
			as = string([]byte{byte(op), 1})
		}
		for _, behind := range []string{"", "\x00", "\x02\x04\x06\x08\x0a\x0c", strings.Repeat("\x01", 40)} {
			expectNoRead(t, as+behind, 0)
			expectNoRead(t, "\x09"+as+behind, 1)
		}
	}
}

// A Source of up to 65536 bytes is written, and read; a longer one is neither. (Of any other Op it is not looked at.)
func TestSources(t *testing.T) {
	for _, x := range []struct {
		size  int
		ahead string
	}{{0, "\x00"}, {1, "\x01"}, {127, "\x7f"}, {128, "\x80\x01"}, {4096, "\x80\x20"}, {4097, "\x81\x20"}, {16383, "\xff\x7f"}, {16384, "\x80\x80\x01"}, {65535, "\xff\xff\x03"}, {65536, "\x80\x80\x04"}} {
		c := upload(-3, strings.Repeat("\x81", x.size))
		want := "\x05\x05" + x.ahead + c.Source
		if b, no := store.Command(c); b != want || no != api.OK {
			t.Errorf("a source of %d bytes is %s, %d", x.size, short(b), no)
		}
		expectRead(t, want, 0, c, len(want))
		expectRead(t, "ab"+want+"\x80", 2, c, 2+len(want))
		if x.size > 0 {
			expectNoRead(t, want[:len(want)-1], 0)
		}
	}
	for _, size := range []int{65537, 65538, 100000} {
		c := upload(1, blanks(size))
		expectNoBytes(t, c)
		expectNoBytes(t, noisy(c))
		expectNoRead(t, "\x05\x02"+numbers(uint64(size))+c.Source, 0)
		for op := api.OpEnter; op <= api.OpQuota; op++ {
			if c.Op = op; op != api.OpUpload {
				want, _ := modelBytes(c)
				if b, no := store.Command(c); b != want || no != api.OK {
					t.Errorf("%d with a long source is %s, %d; want %s", op, short(b), no, short(want))
				}
			}
		}
	}
}

// Several wrong at once are refused all the same.
func TestSeveralWrong(t *testing.T) {
	for _, op := range []api.Op{0, 12, 13, 128, 255} {
		c := noisy(upload(1, blanks(mostText+1)))
		c.Op = op
		expectNoBytes(t, c)
		expectNoRead(t, string([]byte{byte(op)})+"\x80\x80", -1)
		expectNoRead(t, string([]byte{byte(op)})+"\x80\x80", 4)
	}
}

// Drawn commands, against the model.
func TestDrawnCommands(t *testing.T) {
	reached := map[bool]int{}
	for seed := range uint64(20) {
		d := drawn(seed)
		for range 1000 {
			c := d.anything()
			want, is := modelBytes(c)
			reached[is]++
			if !is {
				expectNoBytes(t, c)
				continue
			}
			if b, no := store.Command(c); b != want || no != api.OK {
				t.Errorf("Command(%s) is %s, %d; want %s", short(c), short(b), no, short(want))
			}
			expectRead(t, want, 0, named(c), len(want))
		}
	}
	expectReached(t, reached, 500, true, false)
}

// What was handed in tells nothing later: a command, bytes, and what came of them stand for themselves, in any order, and again.
func TestCommandsKnowNothingOfOneAnother(t *testing.T) {
	all := samples()
	for range 3 {
		for i := range all {
			s, other := all[i], all[len(all)-1-i]
			b, _ := store.Command(s.c)
			expectNoBytes(t, api.Command{Op: 12})
			expectNoRead(t, other.bytes()[:len(other.bytes())-1], 0)
			c, _, _ := store.Read(b, 0)
			x, _ := store.Command(other.c)
			if b != s.bytes() || c != s.c || x != other.bytes() {
				t.Errorf("%s is %s", short(s.c), short(b))
			}
		}
	}
}
