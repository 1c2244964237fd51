package lab_test

import (
	"fmt"
	"strings"
	"testing"
)

// Each kind of event, by hand.
func TestEvents(t *testing.T) {
	for _, c := range []struct{ lines, want string }{
		{"enter 1 limit buy 5 10.5", "ok 1\naccepted 1 1 buy 10.50 5\nrested 1 1 buy 10.50 5\n"},
		{"enter 2 limit sell 5 0.01\ncancel 2 1", "ok 1\naccepted 1 2 sell 0.01 5\nrested 1 2 sell 0.01 5\nok\nwithdrawn 1 2 sell 0.01 5\n"},
		{"enter 2 now buy 5 1", "ok 1\naccepted 1 2 buy 1.00 5\ndropped 1 2 buy 1.00 5\n"},
		{"enter 2 market sell 5", "ok 1\naccepted 1 2 sell 0.00 5\ndropped 1 2 sell 0.00 5\n"},
		{"enter 1 limit sell 5 9\nenter 2 limit buy 3 9.1", "ok 1\naccepted 1 1 sell 9.00 5\nrested 1 1 sell 9.00 5\nok 2\naccepted 2 2 buy 9.10 3\ntraded 2 1 2 1 buy 9.00 3\n"},
		{"enter 1 limit buy 5 9\nenter 2 limit sell 7 8", "ok 1\naccepted 1 1 buy 9.00 5\nrested 1 1 buy 9.00 5\nok 2\naccepted 2 2 sell 8.00 7\ntraded 2 1 2 1 sell 9.00 5\nrested 2 2 sell 8.00 2\n"},
		{"enter 2 limit buy 5 9\nenter 2 limit sell 7 8", "ok 1\naccepted 1 2 buy 9.00 5\nrested 1 2 buy 9.00 5\nok 2\naccepted 2 2 sell 8.00 7\nyielded 1 2 2 buy 9.00 5\nrested 2 2 sell 8.00 7\n"},
		{"enter 2 limit buy 5 9\namend 2 1 4 9\namend 2 1 6 9\namend 2 1 6 9\namend 2 1 2 9.25", "ok 1\naccepted 1 2 buy 9.00 5\nrested 1 2 buy 9.00 5\nok\nreduced 1 2 buy 9.00 4 5\n" +
			"ok\namended 1 2 buy 9.00 6 4\nrested 1 2 buy 9.00 6\nrefused 92\nok\namended 1 2 buy 9.25 2 6\nrested 1 2 buy 9.25 2\n"},
		{"enter 1 limit sell 5 9\nenter 2 limit buy 3 8\namend 2 2 7 9", "ok 1\naccepted 1 1 sell 9.00 5\nrested 1 1 sell 9.00 5\nok 2\naccepted 2 2 buy 8.00 3\nrested 2 2 buy 8.00 3\n" +
			"ok\namended 2 2 buy 9.00 7 3\ntraded 2 1 2 1 buy 9.00 5\nrested 2 2 buy 9.00 2\n"},
	} {
		expectTold(t, plain+c.lines, "ok\n"+c.want)
	}
}

// What comes of strategies: each row of the table.
func TestTells(t *testing.T) {
	offer := "ok 1\naccepted 1 2 sell 10.00 5\nrested 1 2 sell 10.00 5\n"
	for _, c := range []struct{ market, lines, want string }{
		{plain, upload(1, "strategy s { reg n int = 0; state a { when false do halt; when n < 1 && now > 0t do set n = 1; } }") + "start 1 1\ntick 1\ntick 2", "ok 1\nok\nok\nfired 1 1\nok\n"},
		{plain, upload(1, clock) + upload(1, halter) + "start 1 2\nstart 1 1\ntick 5\ntick 6", "ok 1\nok 2\nok\nok\nok\nfired 1 0\nfired 2 0\nok\nfired 1 0\nfired 2 0\nhalted 2\n"},
		{plain, upload(1, clock) + upload(1, faulter) + "start 1 2\nstart 1 2", "ok 1\nok 2\nok\nfaulted 2 170\nok\nfaulted 2 170\n"},
		{plain, upload(1, "strategy s { reg n int = 0; state a { when has ask && 10 / n > 3 do halt; } }") + "start 1 1\nenter 2 limit sell 5 10", "ok 1\nok\n" + offer + "faulted 1 11\n"},
		{market(map[int]int64{13: 1}), upload(1, "strategy s { state a { when false do halt; when has ask do submit buy of 1q at 1p ioc, submit buy of 1q at 1p ioc, halt; } }") + "start 1 1\nenter 2 limit sell 5 10", "ok 1\nok\n" + offer + "over 1 1\n"},
		{plain, upload(1, taker) + "start 1 1\nenter 2 limit sell 5 10", "ok 1\nok\n" + offer +
			"fired 1 0\naccepted 2 1 buy 10.00 1\ntraded 2 1 1 2 buy 10.00 1\nfired 1 0\naccepted 3 1 buy 10.00 1\ntraded 3 1 1 2 buy 10.00 1\nfired 1 0\naccepted 4 1 buy 10.00 1\ntraded 4 1 1 2 buy 10.00 1\ncut\n"},
		{plain, upload(1, "strategy s { reg n int = 0; slot o; slot p; state a { when has ask && n < 1 do cancel p, submit buy of 1q at 1p post as o, amend o to 2q at 1p, cancel o, amend o to 1q at 1p, set n = 1; } }") + "start 1 1\nenter 2 limit sell 5 10\nstatus 1",
			"ok 1\nok\n" + offer + "fired 1 0\nrejected 1 0 90\naccepted 2 1 buy 0.01 1\nrested 2 1 buy 0.01 1\namended 2 1 buy 0.01 2 1\nrested 2 1 buy 0.01 2\nwithdrawn 2 1 buy 0.01 2\nrejected 1 4 90\n" +
				"ok\nstrategy 1 1 1 0 0\nregs 1\nslots 2 0\nsees 0.00 10.00 0.00 0 0 0\n"},
	} {
		expectTold(t, c.market+c.lines, "ok\n"+c.want)
	}
}

// An upload is refused for its source at a place; for who asks at none.
func TestRefusedUploads(t *testing.T) {
	few := market(map[int]int64{11: 1})
	expectTold(t, few+"upload 1\n.\nupload 0\n.\nupload 3\nx\n.\nupload -1\nstrategy s { state a {} }\n.\n", "ok\nrefused 130 at 0\nrefused 232\nrefused 232\nrefused 232\n")
	expectTold(t, few+upload(1, clock)+"upload 1\nx\n.\n"+upload(1, clock)+"upload 3\nx\n.\nupload 2\nx\n.\n", "ok\nok 1\nrefused 222\nrefused 222\nrefused 232\nrefused 130 at 0\n")
	for source, want := range map[string]string{
		"strategy s { state a {} } x":    "130 at 26",
		"&":                              "111 at 0",
		"strategy a234567890123456789 {": "112 at 9",
		"strategy s { reg n int = 05":    "113 at 25",
		"strategy s { slot a; slot b; slot c; slot d; slot e; state a {} }":                 "131 at 45",
		"strategy s { state a {} state a {} }":                                              "150 at 24",
		"strategy s { state a { when zz do halt; } }":                                       "151 at 28",
		"strategy s { state a { when " + strings.Repeat("(", 30) + "true do halt; } }":      "132 at 52",
		"strategy s { state a { when " + strings.Repeat("-", 30) + "1 > 2 do halt; } }":     "132 at 52",
		"strategy s { state a { when true do goto a, goto a; } }":                           "153 at 44",
		"strategy s { state a { when 1p > 2q do halt; } }":                                  "152 at 31",
		"strategy s { state a { when " + strings.Repeat("1+", 300) + "1 > 2 do halt; } }\n": "160 at 0",
		strings.Repeat("#", 4096):                                                           "110 at 0",
	} {
		expectTold(t, plain+upload(1, source), "ok\nrefused "+want+"\n")
	}
}

// Prices have the market's places wherever one is told.
func TestPlaces(t *testing.T) {
	for places, p := range map[int][2]string{0: {"5", "0"}, 1: {"0.5", "0.0"}, 2: {"0.05", "0.00"}, 5: {"0.00005", "0.00000"}, 9: {"0.000000005", "0.000000000"}} {
		some, none := p[0], p[1]
		script := wide(places) + upload(1, halter) + "enter 1 limit buy 2 " + some + "\nenter 2 market sell 1\nbook\nstart 1 1\nstatus 1\namend 1 1 2 " + some + "\ntop\ncancel 1 1\n"
		want := "ok\nok 1\nok 1\naccepted 1 1 buy P 2\nrested 1 1 buy P 2\nok 2\naccepted 2 2 sell 0 1\ntraded 2 1 2 1 sell P 1\nok\n1 1 buy P 1\nok\nok\nstrategy 1 1 1 0 0\nregs -7 5\nslots 0 0\nsees P 0 P 1 0 1\n" +
			"ok\namended 1 1 buy P 2 1\nrested 1 1 buy P 2\nok\ntop P 0 P 1 0\nok\nwithdrawn 1 1 buy P 2\n"
		want = strings.NewReplacer("P", some, "sell 0 ", "sell "+none+" ", "sees P 0 ", "sees "+some+" "+none+" ", "top P 0 ", "top "+some+" "+none+" ").Replace(want)
		expectTold(t, script, want)
	}
	// The greatest price, and the greatest numbers.
	for places, greatest := range map[int]string{0: "1000000000", 4: "100000.0000", 9: "1.000000000"} {
		expectTold(t, wide(places)+"enter 8 limit sell 1000000000 "+greatest+"\nbook\ntick 1000000000000000\ntop\nquota 8",
			fmt.Sprintf("ok\nok 1\naccepted 1 8 sell %[1]s 1000000000\nrested 1 8 sell %[1]s 1000000000\nok\n1 8 sell %[1]s 1000000000\nok\nok\ntop %[2]s %[1]s %[2]s 0 1000000000000000\nok\nused 0 1 1000000000 0\n", greatest, map[int]string{0: "0", 4: "0.0000", 9: "0.000000000"}[places]))
	}
}

// A price is read with the market's places: fewer digits are as if noughts stood behind, more are refused by decimal, as is a number that leaves its bounds.
func TestPricesOfAMarket(t *testing.T) {
	prices := []string{"12", "12.5", "12.50", "12.500", "12.0", "12.000000000", "12.123456789", "9223372036854775807", "922337203685477580.7", "-9223372036854775808", "-12.5", "0", "-0.0", "1000000000", "0.000000001", "0.1"}
	for places := range 10 {
		ahead := wide(places) + "enter 1 limit buy 5 1\n"
		for _, p := range prices {
			expectModel(t, ahead+"enter 1 limit sell 4 "+p+"\nbook\ntorn 1\namend 1 1 5 "+p+"\nbook")
		}
	}
	for lines, want := range map[string]string{
		"enter 1 limit buy 5 12":                    "ok 1\naccepted 1 1 buy 12.00 5\nrested 1 1 buy 12.00 5\n",
		"enter 1 limit buy 5 12.5":                  "ok 1\naccepted 1 1 buy 12.50 5\nrested 1 1 buy 12.50 5\n",
		"enter 1 limit buy 5 12.50":                 "ok 1\naccepted 1 1 buy 12.50 5\nrested 1 1 buy 12.50 5\n",
		"enter 1 limit buy 5 12.500":                "refused 20\n",
		"enter 1 limit buy 5 12.000":                "refused 20\n",
		"amend 1 1 5 12.005":                        "refused 20\n",
		"enter 1 limit buy 5 9223372036854775807":   "refused 21\n",
		"amend 1 1 5 -9223372036854775808":          "refused 21\n",
		"enter 1 limit buy 5 922337203685477580.7":  "refused 21\n",
		"enter 1 limit buy 5 92233720368547758.07":  "refused 75\n",
		"enter 1 limit buy 5 -92233720368547758.08": "refused 75\n",
		"enter 1 limit buy 5 -1":                    "refused 75\n",
		"enter 1 limit buy 5 -0.00":                 "refused 75\n",
		// The price comes ahead of what the venue says: it is not asked.
		"enter 0 limit buy 5 12.555": "refused 20\n",
		"enter 1 limit buy 0 12.555": "refused 20\n",
		"enter 9 post sell -1 0.001": "refused 20\n",
		"amend 9 7 -1 0.001":         "refused 20\n",
		"amend 9 7 -1 0.01":          "refused 232\n",
	} {
		expectTold(t, plain+lines, "ok\n"+want)
	}
	// Nothing of what is refused so is written down, or counted.
	expectTold(t, plain+"tick 3\nenter 1 limit buy 5 0.001\namend 1 1 5 0.001\nquota 1\ntorn 0\n", "ok\nok\nrefused 20\nrefused 20\nok\nused 0 0 0 0\nok 40\n")
}

// Books, standings and quotas of nothing, and of much.
func TestMuchAndNothing(t *testing.T) {
	expectTold(t, wide(0)+"book\nquota 1\nquota 8\nquota 0\nquota 9\nstatus 1\nstatus 0\nstatus -1\ntop", "ok\nok\nok\nused 0 0 0 0\nok\nused 0 0 0 0\nrefused 232\nrefused 232\nrefused 234\nrefused 234\nrefused 234\nok\ntop 0 0 0 0 0\n")
	script, book := strings.Builder{}, [2]string{}
	for k := range 256 {
		price, side := 1000+k/2, "sell"
		if k%2 == 0 {
			price, side = 500+k/2, "buy"
		}
		fmt.Fprintf(&script, "enter %d limit %s %d %d\n", 1+k%8, side, 1000000+k, price)
		line := fmt.Sprintf("%d %d %s %d %d\n", k+1, 1+k%8, side, price, 1000000+k)
		if k%2 == 0 {
			book[0] = line + book[0]
		} else {
			book[1] += line
		}
	}
	got := expectModel(t, wide(0)+script.String()+"book\nquota 1\nenter 1 limit buy 1 1\n")
	if want := "ok\n" + book[0] + book[1] + "ok\nused 0 32 32003968 32\nrefused 60\n"; !strings.HasSuffix(got, want) {
		t.Errorf("%s; want %s", got[len(got)-len(want):], want)
	}

	lines := wide(0) + upload(8, "strategy s { reg a int = 1; reg b int = -9223372036854775807; reg c int = 9223372036854775807; reg d int = 0; reg e int = 5; reg f int = 6; reg g int = 7; reg h int = 8; reg i int = 9; reg j int = 10; reg k int = 11; reg l int = 12; "+
		"slot o; slot p; slot q; slot r; state a {} state b {} }") + "status 1\nstart 8 1\nstatus 1\ntick 9\nenter 8 limit buy 3 77\nenter 8 limit sell 4 99\nstatus 1\nstop 8 1\ntick 10\nstatus 1\n"
	regs := "regs 1 -9223372036854775807 9223372036854775807 0 5 6 7 8 9 10 11 12\nslots 0 0 0 0\n"
	expectTold(t, lines, "ok\nok 1\nok\nstrategy 1 8 0 0 0\n"+regs+"sees 0 0 0 0 0 0\nok\nok\nstrategy 1 8 1 0 0\n"+regs+"sees 0 0 0 0 0 0\nok\nok 1\naccepted 1 8 buy 77 3\nrested 1 8 buy 77 3\nok 2\naccepted 2 8 sell 99 4\nrested 2 8 sell 99 4\n"+
		"ok\nstrategy 1 8 1 0 0\n"+regs+"sees 77 99 0 0 9 7\nok\nok\nok\nstrategy 1 8 0 0 0\n"+regs+"sees 77 99 0 0 9 7\n")
}

// What is refused tells one line, and what is done begins with one that says so: each command, both ways.
func TestDoneAndRefused(t *testing.T) {
	ahead := plain + upload(1, clock) + upload(2, halter) + "start 2 2\nenter 1 limit buy 5 1\nenter 2 limit sell 5 2\ntick 3\n"
	was := told(t, ahead)
	for _, c := range []struct{ line, want string }{
		{"enter 1 limit buy 2 1.5", "ok 3\naccepted 3 1 buy 1.50 2\nrested 3 1 buy 1.50 2\n"}, {"enter 3 limit buy 2 1.5", "refused 232\n"}, {"enter 1 limit buy 101 1.5", "refused 74\n"},
		{"amend 1 1 2 1", "ok\nreduced 1 1 buy 1.00 2 5\n"}, {"amend 1 1 5 1", "refused 92\n"}, {"amend 1 2 5 1", "refused 91\n"}, {"amend 1 3 5 1", "refused 90\n"}, {"amend 0 1 2 1", "refused 232\n"},
		{"cancel 1 1", "ok\nwithdrawn 1 1 buy 1.00 5\n"}, {"cancel 1 2", "refused 91\n"}, {"cancel 1 3", "refused 90\n"}, {"cancel 3 1", "refused 232\n"},
		{"start 1 1", "ok\nfired 1 0\n"}, {"start 2 2", "refused 236\n"}, {"start 1 2", "refused 235\n"}, {"start 1 3", "refused 234\n"}, {"start 9 1", "refused 232\n"},
		{"stop 2 2", "ok\n"}, {"stop 1 1", "refused 237\n"}, {"stop 1 2", "refused 235\n"}, {"stop 1 3", "refused 234\n"}, {"stop -1 1", "refused 232\n"},
		{"drop 1 1", "ok\n"}, {"drop 2 2", "refused 236\n"}, {"drop 1 2", "refused 235\n"}, {"drop 1 3", "refused 234\n"}, {"drop 0 1", "refused 232\n"},
		{"tick 3", "ok\n"}, {"tick 9", "ok\nfired 2 0\nhalted 2\n"}, {"tick 2", "refused 233\n"}, {"tick 1000000000000001", "refused 233\n"}, {"tick -1", "refused 233\n"},
		{"upload 1\nstrategy s { state a {} }\n.", "ok 3\n"}, {"upload 1\nx\n.", "refused 130 at 0\n"}, {"upload 3\nx\n.", "refused 232\n"},
		{"book", "ok\n1 1 buy 1.00 5\n2 2 sell 2.00 5\n"}, {"status 2", "ok\nstrategy 2 2 1 0 1\nregs -7 5\nslots 0 0\nsees 1.00 2.00 0.00 0 3 5\n"}, {"status 3", "refused 234\n"},
		{"quota 2", "ok\nused 1 1 5 1\n"}, {"quota 3", "refused 232\n"}, {"top", "ok\ntop 1.00 2.00 0.00 0 3\n"}, {"torn 0", "ok 298\n"}, {"torn 298", "refused 250\n"},
		{"market 1 1 1 1 1 1 1 1 1 1 1 1 1 1 1 1", "ok\n"}, {"market 1 1 1 1 1 1 1 1 1 1 0 1 1 1 1 1", "refused 230\n"},
	} {
		expectTold(t, ahead+c.line, was+c.want)
		expectModel(t, ahead+c.line+"\nbook\ntop\nquota 1\nquota 2\nstatus 1\nstatus 2\ntorn 0\n")
		if strings.HasPrefix(c.want, "refused") {
			// T4: what is refused leaves all as it was.
			const asks = "\nbook\ntop\nquota 1\nquota 2\nstatus 1\nstatus 2\n"
			expectTold(t, ahead+c.line+asks, was+c.want+told(t, ahead+asks)[len(was):])
		}
	}
}
