package lab_test

import (
	"fmt"
	"slices"
	"strings"
	"testing"

	"tripwire/api"
)

// patterns are each command's words: N is a number, P a price, KIND and SIDE stand for theirs.
func patterns() []string {
	return []string{
		"market" + strings.Repeat(" N", 16),
		"enter N limit SIDE N P", "enter N now SIDE N P", "enter N all SIDE N P", "enter N post SIDE N P", "enter N market SIDE N",
		"amend N N N P", "cancel N N", "start N N", "stop N N", "drop N N", "tick N", "upload N", "book", "status N", "quota N", "top", "torn N",
	}
}

// filled is a pattern with words that may be.
func filled(pattern string) string {
	return strings.NewReplacer("N", "1", "P", "2.5", "SIDE", "sell").Replace(pattern)
}

// ended is a line with what must stand behind it.
func ended(line string) string {
	if strings.HasPrefix(strings.TrimLeft(line, " "), "upload") {
		return line + "\n."
	}
	return line
}

// expectRight tells whether a line is a command: ahead of any market, and behind one.
func expectRight(t *testing.T, line string) {
	t.Helper()
	told(t, "\n"+ended(line)+"\n")
	told(t, plain+ended(line))
	if !strings.HasPrefix(line, "market") {
		expectTold(t, ended(line)+"\ntop", "none\nnone\n")
	}
}

// expectWrong tells whether a line is no command.
func expectWrong(t *testing.T, line string) {
	t.Helper()
	expectNone(t, ended(line), wrong, 1)
	expectNone(t, plain+"top\n \n"+ended(line)+"\ntop", wrong, 4)
}

func TestHowManyWords(t *testing.T) {
	for _, pattern := range patterns() {
		line := filled(pattern)
		words := strings.Fields(line)
		expectRight(t, line)
		expectRight(t, strings.Join(words, "   "))
		for n := 1; n < len(words); n++ {
			expectWrong(t, strings.Join(words[:n], " "))
			expectWrong(t, strings.Join(slices.Delete(slices.Clone(words), n, n+1), " "))
		}
		for _, more := range []string{"1", "2.5", "buy", "x", "#", "# 1", ".", "-1", "\t", "limit", "1 1", "\x00"} {
			expectWrong(t, line+" "+more)
			expectWrong(t, line+"  "+more+" ")
		}
	}
	expectWrong(t, plain[:len(plain)-1]+" 2")
}

func TestFirstWords(t *testing.T) {
	for _, first := range []string{
		"Top", "TOP", "to", "topp", "op", "tops", "Market", "markets", "ENTER", "enters", "ente", "amends", "Cancel", "cancels", "ticks", "Tick", "uploads", "uploaded", "Upload", "starts", "started", "stops", "dropped",
		"books", "state", "stat", "status:", "quotas", "tor", "tear", "run", "none", "ok", "refused", ".", "1", "-", "limit", "buy", "//", "\"top\"", "top;", "top,", "é", "t\x00op", "\x00", "strategy", "op1", "0",
	} {
		for _, behind := range []string{"", " 1", " 1 1", " 1 limit buy 1 1", " 1 1 1 1", strings.Repeat(" 1", 16)} {
			expectWrong(t, first+behind)
		}
	}
}

// places are where a pattern has a word.
func places(pattern, word string) []int {
	var all []int
	for k, w := range strings.Fields(pattern) {
		if w == word {
			all = append(all, k)
		}
	}
	return all
}

// withWord is a pattern filled, but for one word.
func withWord(pattern string, k int, word string) string {
	words := strings.Fields(filled(pattern))
	words[k] = word
	return strings.Join(words, " ")
}

func wrongNumbers() []string {
	return []string{
		"05", "00", "-05", "+1", "+0", "-", "--1", "1-", "1e3", "0x1", "1_000", "1,000", "x", "one", "1.", "1.5", "1.0", "0.0", ".0", "01", "-00", "1\t", "\t1", "1\r", "١", "1q", "1p", "#", "NaN",
		"9223372036854775808", "-9223372036854775809", "10000000000000000000", "18446744073709551616", "-18446744073709551617", "100000000000000000000000000000000000000000", "9223372036854775807.0", "\xff", "limit", "buy",
	}
}

// N is what decimal reads without places; an empty one is none at all.
func TestNumbers(t *testing.T) {
	for _, pattern := range patterns() {
		for _, k := range places(pattern, "N") {
			for _, n := range wrongNumbers() {
				expectWrong(t, withWord(pattern, k, n))
			}
			expectWrong(t, withWord(pattern, k, ""))
			for _, n := range []string{"0", "-0", "1", "-1", "9", "10", "-10", "1000000000", "9223372036854775807", "-9223372036854775808", "-9223372036854775807"} {
				expectRight(t, withWord(pattern, k, n))
			}
		}
	}
}

// P is what decimal reads with some places: with which of them, hangs on the market.
func TestPrices(t *testing.T) {
	for _, pattern := range patterns() {
		for _, k := range places(pattern, "P") {
			for _, p := range []string{
				"1.", "1..", "1.2.3", ".5", "-.5", ".", "01", "01.5", "00.5", "+1.5", "1,5", "1.5e3", "1. 5", "1.-5", "x", "-", "1.x", "1.5x", "1.0000000001", "0.0000000000", "1.00000000000", "limit", "sell", "#", "1.5p",
				"9223372036854775808", "9223372036854775808.0", "922337203685477580.80", "92233720368547758.080", "9223372036.854775808", "-9223372036.854775809", "-9223372036854775809", "99999999999999999999.999999999", "9223372036854775807.0",
				"1.5\t", "1.\xff", "١.٥", "1.2345678901",
			} {
				expectWrong(t, withWord(pattern, k, p))
			}
			expectWrong(t, withWord(pattern, k, ""))
			for _, p := range []string{
				"0", "-0", "-0.0", "1", "-1", "-1.5", "1.0", "10.5", "10.50", "10.555", "0.1", "0.01", "0.001", "0.0001", "0.00001", "0.000001", "0.0000001", "0.00000001", "0.000000001", "1.000000000", "-0.000000000",
				"9223372036854775807", "-9223372036854775808", "922337203685477580.7", "-92233720368547758.08", "9223372036.854775807", "-9223372036.854775808", "922337203685477580.6", "99999999999.9999999",
			} {
				expectRight(t, withWord(pattern, k, p))
			}
		}
	}
}

func TestKindsThatAreNone(t *testing.T) {
	for _, kind := range []string{"Limit", "LIMIT", "limi", "limits", "markets", "Market", "nows", "ioc", "fok", "stop", "1", "2", "0", "-1", "buy", "sell", "post,", "any", "#", ".", "al", "limit\t", "tick", "enter", "none"} {
		for _, side := range []string{"buy", "sell"} {
			expectWrong(t, "enter 1 "+kind+" "+side+" 1 1")
			expectWrong(t, "enter 1 "+kind+" "+side+" 1")
		}
	}
	for _, side := range []string{"Buy", "BUY", "b", "bu", "buys", "sells", "Sell", "sel", "ask", "bid", "1", "2", "0", "limit", "none", "#", ".", "both", "sell,", "sell\r"} {
		for _, kind := range []string{"limit", "now", "all", "post"} {
			expectWrong(t, "enter 1 "+kind+" "+side+" 1 1")
		}
		expectWrong(t, "enter 1 market "+side+" 1")
	}
	for _, line := range []string{"enter 1 buy limit 1 1", "enter limit 1 buy 1 1", "enter 1 limit 1 buy 1", "enter 1 limit buy 1.5 1", "enter 1.5 limit buy 1 1", "enter 1 limit buy buy 1 1", "enter 1 market buy 1 0", "enter 1 limit limit buy 1 1"} {
		expectWrong(t, line)
	}
}

// Each kind and each side asks for what it says.
func TestKindsAndSides(t *testing.T) {
	// 5 are offered at 10, 5 are bid at 8.
	market := wide(0) + "enter 2 limit sell 5 10\nenter 2 limit buy 5 8\n"
	ahead := told(t, market)
	for line, want := range map[string]string{
		"limit buy 7 10":  "ok 3\naccepted 3 1 buy 10 7\ntraded 3 1 1 2 buy 10 5\nrested 3 1 buy 10 2\n",
		"limit sell 7 8":  "ok 3\naccepted 3 1 sell 8 7\ntraded 3 2 1 2 sell 8 5\nrested 3 1 sell 8 2\n",
		"limit buy 7 9":   "ok 3\naccepted 3 1 buy 9 7\nrested 3 1 buy 9 7\n",
		"limit sell 7 9":  "ok 3\naccepted 3 1 sell 9 7\nrested 3 1 sell 9 7\n",
		"market buy 7":    "ok 3\naccepted 3 1 buy 0 7\ntraded 3 1 1 2 buy 10 5\ndropped 3 1 buy 0 2\n",
		"market sell 7":   "ok 3\naccepted 3 1 sell 0 7\ntraded 3 2 1 2 sell 8 5\ndropped 3 1 sell 0 2\n",
		"now buy 7 11":    "ok 3\naccepted 3 1 buy 11 7\ntraded 3 1 1 2 buy 10 5\ndropped 3 1 buy 11 2\n",
		"now sell 7 9":    "ok 3\naccepted 3 1 sell 9 7\ndropped 3 1 sell 9 7\n",
		"all buy 7 10":    "refused 81\n",
		"all sell 5 7":    "ok 3\naccepted 3 1 sell 7 5\ntraded 3 2 1 2 sell 8 5\n",
		"post buy 7 10":   "refused 80\n",
		"post buy 7 9":    "ok 3\naccepted 3 1 buy 9 7\nrested 3 1 buy 9 7\n",
		"post sell 7 8":   "refused 80\n",
		"post sell 7 9":   "ok 3\naccepted 3 1 sell 9 7\nrested 3 1 sell 9 7\n",
		"limit buy 0 10":  "refused 74\n",
		"limit buy 1 0":   "refused 75\n",
		"limit buy -1 -1": "refused 74\n",
		"limit buy 1 -1":  "refused 75\n",
	} {
		expectTold(t, market+"enter 1 "+line, ahead+want)
	}
}

// Which word is which, where they are of one kind.
func TestTheOrderOfWords(t *testing.T) {
	for lines, want := range map[string]string{
		"enter 2 limit buy 7 10": "ok 1\naccepted 1 2 buy 10 7\nrested 1 2 buy 10 7\n",
		"enter 3 limit sell 1 9\nenter 2 limit buy 7 5\namend 2 2 6 4": "ok 1\naccepted 1 3 sell 9 1\nrested 1 3 sell 9 1\nok 2\naccepted 2 2 buy 5 7\nrested 2 2 buy 5 7\n" +
			"ok\namended 2 2 buy 4 6 7\nrested 2 2 buy 4 6\n",
		"enter 2 limit buy 7 5\namend 2 1 6 5":                    "ok 1\naccepted 1 2 buy 5 7\nrested 1 2 buy 5 7\nok\nreduced 1 2 buy 5 6 7\n",
		"enter 2 limit buy 7 5\ncancel 1 2":                       "ok 1\naccepted 1 2 buy 5 7\nrested 1 2 buy 5 7\nrefused 90\n",
		"enter 2 limit buy 7 5\ncancel 2 1":                       "ok 1\naccepted 1 2 buy 5 7\nrested 1 2 buy 5 7\nok\nwithdrawn 1 2 buy 5 7\n",
		"enter 2 limit buy 7 5\ncancel 1 1":                       "ok 1\naccepted 1 2 buy 5 7\nrested 1 2 buy 5 7\nrefused 91\n",
		upload(2, clock) + "start 1 2\nstart 1 1\nstart 2 1":      "ok 1\nrefused 234\nrefused 235\nok\n",
		upload(2, clock) + "start 2 1\nstop 1 2\nstop 2 1":        "ok 1\nok\nrefused 234\nok\n",
		upload(2, clock) + "drop 1 2\ndrop 1 1\ndrop 2 1":         "ok 1\nrefused 234\nrefused 235\nok\n",
		upload(2, clock) + upload(2, clock) + "status 2\nquota 2": "ok 1\nok 2\nok\nstrategy 2 2 0 0 0\nregs 0\nslots\nsees 0 0 0 0 0 0\nok\nused 2 0 0 0\n",
		"tick 7\ntop\ntick 6\ntick 8\ntop":                        "ok\nok\ntop 0 0 0 0 7\nrefused 233\nok\nok\ntop 0 0 0 0 8\n",
	} {
		expectTold(t, wide(0)+lines, "ok\n"+want)
	}
}

// Each command, ahead of any market: whatever it says.
func TestAheadOfAnyMarket(t *testing.T) {
	for _, pattern := range patterns()[1:] {
		expectTold(t, ended(filled(pattern)), "none\n")
		for _, n := range []string{"-1", "0", "9223372036854775807", "-9223372036854775808"} {
			expectTold(t, ended(strings.NewReplacer("N", n, "P", "0.123456789", "SIDE", "buy").Replace(pattern)), "none\n")
		}
	}
	expectTold(t, upload(1, hunter)+"start 1 1\ntop\ntorn 0\ntorn -1\ntorn 5\nbook\n", strings.Repeat("none\n", 7))
	// A market that is refused is none; nothing is kept of what was told ahead of the first one.
	refused := "market 0 1 1 1 10000 100 16 8 1000 1000 3 2 8 100 10 2\n"
	expectTold(t, "top\n"+refused+"top\nenter 1 limit buy 1 1\n"+plain+"book\ntop", "none\nrefused 70\nnone\nnone\nok\nok\nok\ntop 0.00 0.00 0.00 0 0\n")
	expectTold(t, refused+refused+"torn 0", "refused 70\nrefused 70\nnone\n")
}

// market is a line of one, with some numbers at their places, counted from 0 on.
func market(n map[int]int64) string {
	line := "market"
	for k, w := range strings.Fields(plain)[1:] {
		if x, is := n[k]; is {
			w = fmt.Sprint(x)
		}
		line += " " + w
	}
	return line + "\n"
}

// Each of a market's numbers is what the config has at that place: by what it lets be, and what not.
func TestEachNumberOfAMarket(t *testing.T) {
	entry := "accepted 1 1 buy 0.30 3\nrested 1 1 buy 0.30 3\n"
	const buys = "enter 1 limit buy 3 0.30\n"
	for _, c := range []struct {
		at     int
		n      int64
		script string
		want   string
	}{
		{0, 1, buys + "enter 2 limit buy 3 0.30", "ok 1\n" + entry + "refused 232\n"},
		{1, 15, buys + "enter 1 limit buy 3 0.29", "refused 70\n"},
		{2, 3, buys + "enter 1 limit buy 3 0.30\nenter 1 limit buy 4 0.30", "refused 70\n"},
		{3, 31, buys + "enter 1 limit buy 3 0.31", "ok\nrefused 75\nok 1\naccepted 1 1 buy 0.31 3\nrested 1 1 buy 0.31 3\n"},
		{4, 29, buys + "enter 1 limit buy 3 0.29", "ok\nrefused 75\nok 1\naccepted 1 1 buy 0.29 3\nrested 1 1 buy 0.29 3\n"},
		{5, 2, buys, "ok\nrefused 74\n"},
		{6, 1, buys + buys, "ok\nok 1\n" + entry + "refused 60\n"},
		{7, 1, buys + "enter 1 limit buy 3 0.29", "ok\nok 1\n" + entry + "refused 61\n"},
		{8, 2, buys + "enter 2 limit sell 3 0.30", "ok\nok 1\n" + entry + "refused 93\n"},
		{9, 1, buys + buys, "ok\nok 1\n" + entry + "refused 94\n"},
		{10, 1, upload(1, taker) + "start 1 1\nenter 2 limit sell 3 1\n", "ok\nok 1\nok\nok 1\naccepted 1 2 sell 1.00 3\nrested 1 2 sell 1.00 3\nfired 1 0\naccepted 2 1 buy 1.00 1\ntraded 2 1 1 2 buy 1.00 1\ncut\n"},
		{11, 1, upload(1, clock) + upload(1, clock), "ok\nok 1\nrefused 222\n"},
		{12, 1, buys + buys, "ok\nok 1\n" + entry + "refused 221\n"},
		{13, 1, buys + buys, "ok\nok 1\n" + entry + "refused 220\n"},
		{14, 3, buys + "tick 3\nquota 1\n", "ok\nok 1\n" + entry + "ok\nok\nused 0 1 3 0\n"},
		{14, 4, buys + "tick 3\nquota 1\n", "ok\nok 1\n" + entry + "ok\nok\nused 0 1 3 1\n"},
		{15, 1, "enter 1 limit buy 3 3.0\nenter 1 limit buy 3 3.00", "ok\nok 1\naccepted 1 1 buy 3.0 3\nrested 1 1 buy 3.0 3\nrefused 20\n"},
	} {
		want := c.want
		switch c.at {
		case 0:
			want = "ok\n" + want
		case 1:
			// A tick of 15 fits neither end: with ends that it fits, it says which prices there are.
			expectTold(t, market(map[int]int64{1: 15, 3: 15, 4: 9990})+c.script, "ok\nok 1\n"+entry+"refused 75\n")
			want += "none\nnone\n"
		case 2:
			// Nor does a lot of 3 fit the most.
			expectTold(t, market(map[int]int64{2: 3, 5: 99})+c.script, "ok\nok 1\n"+entry+"ok 2\n"+strings.ReplaceAll(entry, " 1 1 ", " 2 1 ")+"refused 74\n")
			want += "none\nnone\nnone\n"
		}
		expectTold(t, market(map[int]int64{c.at: c.n})+c.script, want)
		expectModel(t, market(map[int]int64{c.at: c.n})+c.script)
	}
}

// Each of a config's numbers, where it may not be.
func TestMarketsThatMayNotBe(t *testing.T) {
	for _, c := range []struct {
		at   int
		n    []int64
		want api.Errno
	}{
		{0, []int64{0, -1, 9, 1 << 32}, 70}, {1, []int64{0, -1, 3, 1000000001}, 70}, {2, []int64{0, -1, 3, 1000000001}, 70}, {3, []int64{0, -1, 10001}, 70}, {4, []int64{0, -1, 1000000001}, 70}, {5, []int64{0, -1, 1000000001}, 70},
		{10, []int64{0, -1, 17}, 230}, {12, []int64{-1, 257}, 230}, {15, []int64{-1, 10, 11, -2, 1 << 32, 1<<32 + 2, -1 << 63, 1<<63 - 1, 256, 258}, 1},
	} {
		for _, n := range c.n {
			expectTold(t, market(map[int]int64{c.at: n}), fmt.Sprintf("refused %d\n", c.want))
		}
	}
	for at := range 16 {
		for _, n := range []int64{-1 << 63, -1, 0, 1, 2, 3, 9, 10, 256, 257, 1 << 32, 1<<32 + 1, 1<<63 - 1} {
			expectModel(t, market(map[int]int64{at: n})+"top\n"+busy()[len(plain):])
		}
	}
	// The places come ahead of all else; then what New says first.
	expectTold(t, "market 0 0 0 0 0 0 0 0 0 0 0 0 0 0 0 10", "refused 1\n")
	expectTold(t, "market 0 0 0 0 0 0 0 0 0 0 0 0 0 0 0 -1", "refused 1\n")
	expectTold(t, "market 0 0 0 0 0 0 0 0 0 0 0 0 0 0 0 9", "refused 70\n")
	expectTold(t, market(map[int]int64{0: 0, 10: 0, 15: 10}), "refused 1\n")
	expectTold(t, market(map[int]int64{0: 0, 10: 0}), "refused 70\n")
	expectTold(t, market(map[int]int64{10: 0, 15: 10}), "refused 1\n")
}
