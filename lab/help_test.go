package lab_test

import (
	"fmt"
	"strings"
	"testing"

	"tripwire/api"
	"tripwire/lab"
)

const (
	wrong = api.ErrLabLine
	long  = api.ErrLabLong
	much  = api.ErrLabMuch

	mostBytes    = 65536
	mostCommands = 1000
	mostTold     = 1048576
)

// plain is the market of the chapter's example.
const plain = "market 2 1 1 1 10000 100 16 8 1000 1000 3 2 8 100 10 2\n"

// wide is one in which all has room, with this many places.
func wide(places int) string {
	return fmt.Sprintf("market 8 1 1 1 1000000000 1000000000 256 128 1000000000000000 1000000000 16 8 256 1000000 1000000000000000 %d\n", places)
}

// Strategies: one that buys once, one that buys in each round, one that counts the times, one that faults, one whose actions are refused, one that halts.
const (
	hunter  = "strategy s { reg n int = 0; slot o; state a { when has ask && n < 1 do submit buy of 2q at ask limit as o, set n = n + 1; } }"
	taker   = "strategy s { state a { when has ask do submit buy of 1q at ask ioc; } }"
	clock   = "strategy s { reg n int = 0; state a { when int(now) > n do set n = int(now); } }"
	faulter = "strategy s { state a { when bid > 3p do halt; } }"
	poster  = "strategy s { slot o; state a { when has bid do cancel o, submit sell of 1q at 5p post as o, goto b; } state b { when !has bid do goto a; } }"
	halter  = "strategy s { reg n int = -7; reg m int = 5; slot o; slot p; state a { when now > 2t do goto b; } state b { when now > 4t do halt; } }"
)

// upload is the lines of one.
func upload(client int, source string) string {
	return fmt.Sprintf("upload %d\n%s\n.\n", client, source)
}

// busy is a script of which much comes: each command, done and refused, uploads, cascades, one that is cut off, each thing that may be told.
func busy() string {
	return plain + upload(1, hunter) + "start 1 1\nenter 2 limit sell 5 10.5\nstatus 1\nquota 1\n" + upload(2, taker) + "start 2 2\n" + upload(1, "strategy") + upload(1, clock) + "tick 3\nenter 1 limit sell 50 9\nstart 1 3\n" +
		"tick 4\nbook\namend 1 4 40 9\namend 1 4 41 9\ncancel 2 1\ncancel 1 1\nstop 2 2\ndrop 2 2\ndrop 1 9\n" + upload(2, faulter) + "start 2 4\nstatus 4\n" + upload(2, poster) + "start 2 5\nenter 1 limit buy 3 6\ntop\n" +
		"enter 2 market sell 1\nenter 1 all buy 100 1\nenter 1 now buy 9 1\nenter 2 post buy 1 0.02\nenter 2 limit sell 1 0.02\namend 2 4 1 50\ntick 4\ntick 2\ntick 25\nquota 2\nstatus 5\nbook\nstart 1 1\nenter 2 limit sell 9 20\n" +
		"drop 1 3\nstop 1 3\n" + "drop 1 3\n" + upload(1, halter) + "start 1 6\nstatus 6\ntick 26\ntick 27\nstatus 6\nenter 1 limit buy 5 10.555\nenter 7 limit buy 5 1\namend 9 1 1 1\nquota 3\nstatus 77\ntop\nbook\n"
}

// pieces are a script's lines, each with its newline; an upload's go together.
func pieces(script string) []string {
	var all []string
	within := false
	for line := range strings.Lines(script) {
		if within {
			all[len(all)-1] += line
			within = line != ".\n"
			continue
		}
		all = append(all, line)
		within = strings.HasPrefix(line, "upload ")
	}
	return all
}

// expectTold tells whether a script is done, and tells this.
func expectTold(t *testing.T, script, want string) {
	t.Helper()
	if told, no, line := lab.Run(script); told != want || no != api.OK || line != 0 {
		t.Errorf("%s\ntells %q, %d, %d; want %q", short(script), short(told), no, line, short(want))
	}
}

// expectNone tells whether a script is refused by this, at this line, with nothing beside.
func expectNone(t *testing.T, script string, want api.Errno, at int) {
	t.Helper()
	if told, no, line := lab.Run(script); told != "" || no != want || line != at || want == api.OK {
		t.Errorf("%s\ntells %q, %d, %d; want error %d at %d", short(script), short(told), no, line, want, at)
	}
}

// expectModel tells whether a script comes to what the model says, and what it told.
func expectModel(t *testing.T, script string) string {
	t.Helper()
	told, no, line := lab.Run(script)
	if want, wantNo, wantLine := modelRun(script); told != want || no != wantNo || line != wantLine {
		t.Fatalf("%s\ntells %s, %d, %d; want %s, %d, %d", script, told, no, line, want, wantNo, wantLine)
	}
	return told
}

// told is what a script tells that is done.
func told(t *testing.T, script string) string {
	t.Helper()
	s, no, line := lab.Run(script)
	if no != api.OK || line != 0 {
		t.Fatalf("%s\ntells %d at %d", short(script), no, line)
	}
	return s
}

// short is a text that is not too long to be read.
func short(s string) string {
	if len(s) > 600 {
		return fmt.Sprintf("%s .. (%d)", s[:600], len(s))
	}
	return s
}

// draw answers numbers that look drawn, and are the same each time.
func draw(from uint64) func(below int) int {
	return func(below int) int {
		from += 0x9e3779b97f4a7c15
		z := from
		z = (z ^ z>>30) * 0xbf58476d1ce4e5b9
		z = (z ^ z>>27) * 0x94d049bb133111eb
		return int((z ^ z>>31) % uint64(below))
	}
}
