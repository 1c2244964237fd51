package lab_test

import "testing"

const example = `market 2 1 1 1 10000 100 16 8 1000 1000 3 2 8 100 10 2
upload 1
strategy s { reg n int = 0; slot o; state a { when has ask && n < 1 do submit buy of 2q at ask limit as o, set n = n + 1; } }
.
start 1 1
enter 2 limit sell 5 10.5
status 1
cancel 1 1
top
`

const exampleTold = `ok
ok 1
ok
ok 1
accepted 1 2 sell 10.50 5
rested 1 2 sell 10.50 5
fired 1 0
accepted 2 1 buy 10.50 2
traded 2 1 1 2 buy 10.50 2
ok
strategy 1 1 1 0 0
regs 1
slots 2
sees 0.00 10.50 10.50 2 0 0
refused 91
ok
top 0.00 10.50 10.50 2 0
`

// The chapter's examples.
func TestExample(t *testing.T) {
	expectTold(t, example, exampleTold)
	expectTold(t, example[:len(example)-1], exampleTold)
}

func TestWhatEndsAScript(t *testing.T) {
	for _, line := range []string{"enter 1 limit buy 5", "enter 1 market buy 5 10", "tick 05", "tick", "top 1", "buy", "upload 1"} {
		expectNone(t, line, wrong, 1)
		expectNone(t, plain+line, wrong, 2)
		expectNone(t, plain+"\ntop\n"+line+"\ntop\n", wrong, 4)
	}
}

func TestAPriceOfMorePlaces(t *testing.T) {
	expectTold(t, plain+"enter 1 limit buy 5 10.555", "ok\nrefused 20\n")
	expectTold(t, "enter 1 limit buy 5 10.555", "none\n")
}

// DOC.md's examples of the whole, as scripts.
func TestExamplesOfTheWhole(t *testing.T) {
	market := wide(0)
	// 1.
	expectTold(t, market+"enter 1 limit sell 5 10\nenter 2 limit sell 5 10\nenter 1 limit sell 5 11\nenter 1 limit buy 7 10",
		"ok\nok 1\naccepted 1 1 sell 10 5\nrested 1 1 sell 10 5\nok 2\naccepted 2 2 sell 10 5\nrested 2 2 sell 10 5\nok 3\naccepted 3 1 sell 11 5\nrested 3 1 sell 11 5\n"+
			"ok 4\naccepted 4 1 buy 10 7\nyielded 1 4 1 sell 10 5\ntraded 4 2 1 2 buy 10 5\nrested 4 1 buy 10 2\n")
	// 2.
	expectTold(t, market+"enter 1 limit sell 10 10\nenter 3 all buy 12 10\nbook\nenter 3 limit buy 1 1",
		"ok\nok 1\naccepted 1 1 sell 10 10\nrested 1 1 sell 10 10\nrefused 81\nok\n1 1 sell 10 10\nok 2\naccepted 2 3 buy 1 1\nrested 2 3 buy 1 1\n")
	// 4.
	expectTold(t, market+upload(1, faulter)+"start 1 1", "ok\nok 1\nok\nfaulted 1 170\n")
	expectTold(t, market+upload(1, "strategy s { state a { when has bid && bid > 3p do halt; } }")+"start 1 1", "ok\nok 1\nok\n")
	// 5.
	expectTold(t, market+upload(1, "strategy s { reg n int = 0; state a { when 10 / n > 3 || has bid do halt; } }")+"start 1 1", "ok\nok 1\nok\nfaulted 1 11\n")
	expectTold(t, market+"enter 2 limit buy 1 1\n"+upload(1, "strategy s { reg n int = 0; state a { when has bid || 10 / n > 3 do halt; } }")+"start 1 1",
		"ok\nok 1\naccepted 1 2 buy 1 1\nrested 1 2 buy 1 1\nok 1\nok\nfired 1 0\nhalted 1\n")
	// 9.
	expectTold(t, market+"tick 3\nenter 1 limit buy 5 7\ntorn 1\ntop", "ok\nok\nok 1\naccepted 1 1 buy 7 5\nrested 1 1 buy 7 5\nok 58\nok\ntop 0 0 0 0 3\n")
}
