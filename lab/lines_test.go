package lab_test

import (
	"fmt"
	"strings"
	"testing"

	"tripwire/api"
	"tripwire/lab"
)

// L1: lines, words, and what says nothing.
func TestLines(t *testing.T) {
	for script, want := range map[string]string{
		"":                        "",
		"\n":                      "",
		"\n\n\n":                  "",
		" ":                       "",
		"   \n \n\n    ":          "",
		"top":                     "none\n",
		"top\n":                   "none\n",
		"top\n\n\n":               "none\n",
		"\n\ntop":                 "none\n",
		"top\ntop":                "none\nnone\n",
		"top\n\ntop\n":            "none\nnone\n",
		" top":                    "none\n",
		"top ":                    "none\n",
		"   top   \n  top":        "none\nnone\n",
		"tick  5":                 "none\n",
		"  cancel   1     2  ":    "none\n",
		"#":                       "",
		"# ":                      "",
		"# top":                   "",
		"#top":                    "",
		"##":                      "",
		"  #":                     "",
		"   # top 1 2 3":          "",
		"#\ttop":                  "",
		"#\r":                     "",
		"#\x00\xff\x80":           "",
		"#upload 1\ntop":          "none\n",
		"# upload 1\n.x\n":        "?2",
		"# a\ntop\n#b\n # c\ntop": "none\nnone\n",
		"top # x":                 "?1",
		"top #":                   "?1",
		"tick 5 # six":            "?1",
		"tick # 5":                "?1",
		"\n \n#\n\ntop #":         "?5",
		".":                       "?1",
		"top\n.\n":                "?2",
		" .":                      "?1",
		"top\n\n\n\n  x":          "?5",
		"top top":                 "?1",
		"to p":                    "?1",
		"ticks\n5":                "?1",
		"tick\n5":                 "?1",
		"tick 5\n6":               "?2",
	} {
		var at int
		if _, err := fmt.Sscanf(want, "?%d", &at); err == nil {
			expectNone(t, script, wrong, at)
		} else {
			expectTold(t, script, want)
		}
	}
}

// A blank alone parts words, a newline alone parts lines; each other byte is of a word.
func TestEachByte(t *testing.T) {
	for c := range 256 {
		b := string([]byte{byte(c)})
		parts, ends, hides := b == " ", b == "\n", b == "#"
		for script, is := range map[string]bool{
			b: parts || ends || hides, b + "top": parts || ends || hides, "top" + b: parts || ends, "to" + b + "p": false,
			"tick" + b + "5": parts, "tick 5" + b: parts || ends || c >= '0' && c <= '9', "tick " + b + "5": parts || b == "-" || c >= '1' && c <= '9',
			"# " + b + "\ntop": true, "#" + b: true, "tick 5\n" + b: parts || ends || hides,
		} {
			_, no, _ := lab.Run(script)
			if is && no != api.OK || !is && no != wrong {
				t.Errorf("%q: %d", script, no)
			}
		}
	}
	for _, b := range []string{"\u00a0", "\u2003", "\u0085", "\u3000", "\ufeff", "\t", "\r", "\v", "\f", "\x00", "\xc2", "\xff"} {
		for _, script := range []string{b, b + "top", "top" + b, "top " + b, b + " top", "tick" + b + "5", "top" + b + "\n", b + "# x"} {
			expectNone(t, "\n"+script+"\ntop", wrong, 2)
		}
	}
}

// The lines are counted whatever they say: those of sources, too.
func TestTheLinesNumber(t *testing.T) {
	for _, ahead := range []string{"", "\n", "#\n", "top\n", " \n\n# a\ntop\n", "upload 1\n.\n", "upload 1\na\nb\n\n#\n.\n", plain + busy(), strings.Repeat("\n", 5000)} {
		at := strings.Count(ahead, "\n") + 1
		expectNone(t, ahead+"x", wrong, at)
		expectNone(t, ahead+"x\nx\nx\n", wrong, at)
		expectNone(t, ahead+"top\nx\n", wrong, at+1)
		expectNone(t, ahead+"upload 1\nx\ny", wrong, at)
		expectNone(t, ahead+"upload 1\n.\nupload 1\n", wrong, at+2)
	}
}

// An upload's source is its lines, each with a newline, as they are: so its length is told by what its end lacks, and its places by what it has too much.
func TestSources(t *testing.T) {
	for lines, want := range map[string]string{
		"":                                 "refused 130 at 0",
		"\n":                               "refused 130 at 1",
		"\n\n\n":                           "refused 130 at 3",
		"   \n":                            "refused 130 at 4",
		"strategy\n":                       "refused 130 at 9",
		"strategy\ns\n{\n":                 "refused 130 at 13",
		"  strategy   s   \n":              "refused 130 at 18",
		"# a remark\n&\n":                  "refused 111 at 11",
		"#\n#\n#\n":                        "refused 130 at 6",
		"# .\n":                            "refused 130 at 4",
		" .\n":                             "refused 111 at 1",
		". \n":                             "refused 111 at 0",
		"..\n":                             "refused 111 at 0",
		"\n.a\n":                           "refused 111 at 1",
		"strategy.\n":                      "refused 111 at 8",
		".\r\n":                            "refused 111 at 0",
		"\r\n":                             "refused 130 at 2",
		"\t\n":                             "refused 130 at 2",
		"\x00\n":                           "refused 111 at 0",
		"strategy \xff\n":                  "refused 111 at 9",
		"upload 1\n":                       "refused 130 at 0",
		"\nupload 1\n":                     "refused 130 at 1",
		"top\ntick 5\nx\n":                 "refused 130 at 0",
		"tick 5\n":                         "refused 130 at 0",
		"strategy s { state a {} }\n":      "ok 1",
		"strategy s\n{\n\nstate a {}\n}\n": "ok 1",
		"strategy s { state a { when zz do halt; } }\n":                         "refused 151 at 28",
		"strategy s { reg n int = true; state a {} }\n":                         "refused 152 at 13",
		"strategy s { state a { when 1 do halt; } }\n":                          "refused 152 at 28",
		"strategy s { state a { when true do halt, halt; } }\n":                 "refused 153 at 42",
		strings.Repeat(" ", 4095) + "\n":                                        "refused 130 at 4096",
		strings.Repeat(" ", 4096) + "\n":                                        "refused 110 at 0",
		strings.Repeat("\n", 4096-26) + "strategy s { state a {} }\n":           "ok 1",
		strings.Repeat("\n", 4097-26) + "strategy s { state a {} }\n":           "refused 110 at 0",
		strings.Repeat("# .\n", 200) + "strategy s { state a {} } # so it is\n": "ok 1",
	} {
		expectTold(t, plain+"upload 1\n"+lines+".\ntop", "ok\n"+want+"\nok\ntop 0.00 0.00 0.00 0 0\n")
		expectTold(t, plain+" upload   1  \n"+lines+".", "ok\n"+want+"\n")
		expectTold(t, "upload 1\n"+lines+".", "none\n")
	}
}

// Where no line is the one byte `.`, the upload is wrong, whatever stands behind.
func TestSourcesWithoutAnEnd(t *testing.T) {
	for _, behind := range []string{"", "\n", "\nstrategy s { state a {} }\n", "\n. ", "\n .", "\n..", "\n.\r\n", "\n.\t", "\n# .", "\nx.\n", "\ntop\ntop\n", "\n.\x00", "\n\n\n", "\nx"} {
		expectNone(t, "upload 1"+behind, wrong, 1)
		expectNone(t, "\ntop\nupload 1"+behind, wrong, 3)
		expectNone(t, plain+"upload 1\n.\n#\nupload 1"+behind, wrong, 5)
	}
	// One within another one's source is no command, and needs no end; nor has it one.
	expectTold(t, "upload 1\nupload 1\n.\n", "none\n")
	expectNone(t, "upload 1\nupload 1\n.\n.\n", wrong, 4)
	expectTold(t, "upload 1\nupload 1\n.\nupload 2\nx y z\n.\n", "none\nnone\n")
	// What stands in a source is nothing by itself.
	expectTold(t, plain+"upload 1\ntick 7\nx\n.\nupload 1\nmarket\n.\ntop", "ok\nrefused 130 at 0\nrefused 130 at 0\nok\ntop 0.00 0.00 0.00 0 0\n")
}
