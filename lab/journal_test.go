package lab_test

import (
	"fmt"
	"strings"
	"testing"
)

// A market is a new journal in the place of the one at hand: nothing of that one is left.
func TestMarketBehindAMarket(t *testing.T) {
	first := plain + upload(1, hunter) + "start 1 1\nenter 2 limit sell 5 10.5\nenter 2 limit buy 1 1\ntick 7\n"
	was := told(t, first)
	expectTold(t, first+wide(0)+"book\ntop\nstatus 1\nquota 1\nquota 8\ntorn 0\ntick 3\nenter 8 limit sell 2 7\n"+upload(2, clock),
		was+"ok\nok\nok\ntop 0 0 0 0 0\nrefused 234\nok\nused 0 0 0 0\nok\nused 0 0 0 0\nok 78\nok\nok 1\naccepted 1 8 sell 7 2\nrested 1 8 sell 7 2\nok 1\n")
	// The same market again is a new one, too.
	expectTold(t, first+first, was+was)
	expectTold(t, first+plain+"torn 0\ntop\n"+plain+first, was+"ok\nok 26\nok\ntop 0.00 0.00 0.00 0 0\nok\n"+was)
	// What was torn off one is not got back by another.
	expectTold(t, first+"torn 1\n"+plain+"torn -1\n"+first, was+"ok 193\nok\nok 26\n"+was)
}

// If it is refused, the one at hand stays: with its orders, its places, its journal.
func TestARefusedMarketBehindAMarket(t *testing.T) {
	first := market(map[int]int64{15: 3}) + upload(1, hunter) + "start 1 1\nenter 2 limit sell 5 10.5\nenter 2 limit buy 1 1\ntick 7\n"
	behind := "book\ntop\nstatus 1\nquota 2\ntorn 0\nenter 2 limit buy 3 0.125\nenter 2 limit buy 3 0.1255\ntorn 1\nbook\n"
	was := told(t, first)
	then := told(t, first+behind)[len(was):]
	for line, want := range map[string]string{
		market(map[int]int64{15: 10}): "refused 1\n", market(map[int]int64{15: -1}): "refused 1\n", market(map[int]int64{0: 0, 15: 0}): "refused 70\n", market(map[int]int64{10: 0, 15: 9}): "refused 230\n",
		market(map[int]int64{6: 0}): told(t, market(map[int]int64{6: 0})), market(map[int]int64{13: -1}): told(t, market(map[int]int64{13: -1})),
	} {
		if !strings.HasPrefix(want, "refused ") {
			t.Errorf("%s tells %s", line, want)
		}
		expectTold(t, first+line+behind, was+want+then)
		expectTold(t, first+line+line+behind, was+want+want+then)
	}
}

// How many bytes are taken, by how many are torn off: those of whole frames.
func TestTorn(t *testing.T) {
	// The config's frame has 26 bytes, a tick's has 7, a book's has 6.
	ahead := plain + "tick 3\ntick 5\nbook\n"
	was := told(t, ahead)
	for torn := range 60 {
		taken, now := 0, 0
		switch left := 46 - torn; {
		case left >= 46:
			taken, now = 46, 5
		case left >= 40:
			taken, now = 40, 5
		case left >= 33:
			taken, now = 33, 3
		case left >= 26:
			taken, now = 26, 0
		}
		want := fmt.Sprintf("ok %d\n", taken)
		if taken == 0 {
			want, taken, now = "refused 250\n", 46, 5
		}
		script := fmt.Sprintf("%storn %d\n", ahead, torn)
		expectTold(t, script+"top\ntorn 0\ntick 9\ntop\ntorn 0\n", was+want+fmt.Sprintf("ok\ntop 0.00 0.00 0.00 0 %d\nok %d\nok\nok\ntop 0.00 0.00 0.00 0 9\nok %d\n", now, taken, taken+7))
	}
	for _, n := range []string{"-1", "-2", "-46", "-1000", "-9223372036854775808", "-9223372036854775807", "0", "-0"} {
		expectTold(t, ahead+"torn "+n+"\ntop\n", was+"ok 46\nok\ntop 0.00 0.00 0.00 0 5\n")
	}
	for _, n := range []string{"46", "47", "21", "45", "1000000", "9223372036854775807", "4294967296", "4294967297"} {
		expectTold(t, ahead+"torn "+n+"\ntop\ntorn -1\n", was+"refused 250\nok\ntop 0.00 0.00 0.00 0 5\nok 46\n")
	}
}

// Torn again and again: what was torn off is gone, and what is done then is written down behind what is left.
func TestTornAgain(t *testing.T) {
	ahead := plain + "tick 3\ntick 5\nbook\n"
	was := told(t, ahead)
	expectTold(t, ahead+"torn 1\ntorn 1\ntop\ntorn 1\ntorn 1\ntorn 20\ntop", was+"ok 40\nok 33\nok\ntop 0.00 0.00 0.00 0 3\nok 26\nrefused 250\nrefused 250\nok\ntop 0.00 0.00 0.00 0 0\n")
	expectTold(t, ahead+"torn 0\ntorn 0\ntorn -1\ntorn 0", was+"ok 46\nok 46\nok 46\nok 46\n")
	expectTold(t, ahead+"torn 7\ntorn -7\ntorn 99\ntorn 0\ntick 4\ntorn 0\ntorn 1\ntick 3\ntop", was+"ok 33\nok 33\nrefused 250\nok 33\nok\nok 40\nok 33\nok\nok\ntop 0.00 0.00 0.00 0 3\n")
	// Numbers that were torn off are given again; the places stay.
	expectTold(t, plain+"enter 1 limit buy 5 1\nenter 1 limit buy 6 1\ntorn 1\nenter 1 limit buy 7 2\nbook\n"+upload(1, clock)+"torn 1\n"+upload(2, clock)+"status 1\n",
		"ok\nok 1\naccepted 1 1 buy 1.00 5\nrested 1 1 buy 1.00 5\nok 2\naccepted 2 1 buy 1.00 6\nrested 2 1 buy 1.00 6\nok 38\nok 2\naccepted 2 1 buy 2.00 7\nrested 2 1 buy 2.00 7\n"+
			"ok\n2 1 buy 2.00 7\n1 1 buy 1.00 5\nok 1\nok 56\nok 1\nok\nstrategy 1 2 0 0 0\nregs 0\nslots\nsees 0.00 0.00 0.00 0 0 0\n")
}

// What is written down: all that is asked of the venue, refused or not; not what is asked of the lab alone, nor what has no price.
func TestWhatIsWrittenDown(t *testing.T) {
	for line, bytes := range map[string]int{
		"top": 0, "torn 0": 0, "torn 99": 0, "torn -1": 0, "enter 1 limit buy 1 0.001": 0, "amend 1 1 1 0.001": 0, "enter 1 limit buy 1 9223372036854775807": 0, "market 0 0 0 0 0 0 0 0 0 0 0 0 0 0 0 0": 0, "#": 0,
		"tick 3": 7, "tick 2": 7, "tick -1": 7, "book": 6, "status 1": 7, "quota 1": 7, "quota 9": 7, "start 1 1": 8, "stop 1 1": 8, "drop 1 1": 8, "cancel 1 1": 8, "amend 1 1 1 0.01": 10, "enter 1 limit buy 1 0.01": 11,
		"enter 9 limit buy 1 0.01": 11, "enter 1 market buy 1": 11, "upload 1\n.": 8, "upload 1\nabc\n.": 12, "upload 9\nabc\n.": 12, "tick 64": 8, "tick 9223372036854775807": 16,
	} {
		s := told(t, plain+"tick 3\n"+line+"\ntorn 0\n")
		if want := fmt.Sprintf("ok %d\n", 33+bytes); !strings.HasSuffix(s, want) {
			t.Errorf("%q: %s; want %s", line, s, want)
		}
	}
}

// Torn in the midst of a command's frame, of each kind: all is as it was ahead of that command.
func TestTornInTheMidst(t *testing.T) {
	ahead := plain + upload(1, clock) + upload(2, halter) + "start 2 2\nenter 1 limit buy 5 1\nenter 2 limit sell 5 2\ntick 3\n"
	const asks = "book\ntop\nquota 1\nquota 2\nstatus 1\nstatus 2\nstatus 3\nenter 1 limit buy 1 1\n"
	was := told(t, ahead)
	then := told(t, ahead+asks)[len(was):]
	for _, c := range []struct {
		line  string
		bytes int
	}{
		{"enter 1 limit buy 2 1.5", 12}, {"enter 1 now buy 9 3", 12}, {"enter 1 market sell 9", 11}, {"enter 9 limit buy 2 1.5", 12}, {"amend 1 1 2 1", 11}, {"amend 1 1 9 3", 11}, {"cancel 1 1", 8}, {"cancel 1 2", 8}, {"tick 9", 7}, {"tick 2", 7},
		{"upload 1\nstrategy s { state a {} }\n.", 34}, {"upload 1\nx\n.", 10}, {"start 1 1", 8}, {"stop 2 2", 8}, {"drop 1 1", 8}, {"book", 6}, {"status 1", 7}, {"quota 1", 7},
	} {
		done := told(t, ahead+c.line)
		for torn := 1; torn <= c.bytes; torn++ {
			expectTold(t, fmt.Sprintf("%s%s\ntorn %d\n%s", ahead, c.line, torn, asks), done+"ok 298\n"+then)
		}
		// One byte more is one of the tick ahead of it.
		expectTold(t, fmt.Sprintf("%s%s\ntorn %d\ntop\n", ahead, c.line, c.bytes+1), done+"ok 291\nok\ntop 1.00 2.00 0.00 0 0\n")
		expectTold(t, fmt.Sprintf("%s%s\ntorn 0\n", ahead, c.line), fmt.Sprintf("%sok %d\n", done, 298+c.bytes))
	}
}
