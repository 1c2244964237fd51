package lab_test

import (
	"fmt"
	"strings"
	"testing"

	"tripwire/api"
	"tripwire/lab"
)

// L3: how long a script may be.
func TestLongScripts(t *testing.T) {
	blank := func(n int) string { return strings.Repeat(" ", n) }
	expectTold(t, blank(mostBytes), "")
	expectNone(t, blank(mostBytes+1), long, 0)
	expectTold(t, strings.Repeat("\n", mostBytes), "")
	expectNone(t, strings.Repeat("\n", mostBytes+1), long, 0)
	expectTold(t, "top\n#"+blank(mostBytes-5), "none\n")
	expectNone(t, "top\n#"+blank(mostBytes-4), long, 0)
	expectTold(t, "top"+blank(mostBytes-6)+"\n#\n", "none\n")
	expectNone(t, "top"+blank(mostBytes-5)+"\n#\n", long, 0)
	expectTold(t, blank(mostBytes-3)+"top", "none\n")
	expectNone(t, strings.Repeat("#", 1<<20), long, 0)

	// That comes ahead of all else.
	expectNone(t, "x\n"+blank(mostBytes-1), long, 0)
	expectNone(t, "x\n"+blank(mostBytes-2), wrong, 1)
	expectNone(t, strings.Repeat("top\n", 2000)+blank(mostBytes), long, 0)
	expectNone(t, strings.Repeat("x", mostBytes+1), long, 0)
	expectNone(t, strings.Repeat("x", mostBytes), wrong, 1)

	// A source as long as a script may have one.
	const ahead = plain + "upload 1\n"
	expectTold(t, ahead+blank(mostBytes-len(ahead)-2)+"\n.", "ok\nrefused 110 at 0\n")
	expectTold(t, ahead+strings.Repeat("\n", mostBytes-len(ahead)-1)+".", "ok\nrefused 110 at 0\n")
	expectNone(t, ahead+strings.Repeat("\n", mostBytes-len(ahead))+".", long, 0)
	expectNone(t, ahead+strings.Repeat(".x\n", (mostBytes-len(ahead))/3), wrong, 2)
}

// How many commands a script may have: lines that say nothing, and lines of sources, are none.
func TestManyCommands(t *testing.T) {
	tops := func(n int) string { return strings.Repeat("top\n", n) }
	expectTold(t, tops(mostCommands), strings.Repeat("none\n", mostCommands))
	expectNone(t, tops(mostCommands+1), much, mostCommands+1)
	expectNone(t, tops(mostCommands)+"\n\n# top\n top ", much, mostCommands+4)
	expectNone(t, tops(mostCommands)+tops(3000), much, mostCommands+1)
	expectTold(t, tops(mostCommands)+"\n#\n \n", strings.Repeat("none\n", mostCommands))
	expectTold(t, strings.Repeat("top\n#\n\n  \n# top\n", mostCommands), strings.Repeat("none\n", mostCommands))
	expectNone(t, strings.Repeat("top\n#\n\n  \n# top\n", mostCommands+1), much, 5*mostCommands+1)
	expectTold(t, strings.Repeat("upload 1\ntop\ntop\ntop\n.\n", mostCommands), strings.Repeat("none\n", mostCommands))
	expectTold(t, tops(mostCommands-1)+"upload 1\n"+strings.Repeat("top\n", 5000)+".", strings.Repeat("none\n", mostCommands))
	expectNone(t, tops(mostCommands)+"upload 1\n\n\n.\n", much, mostCommands+1)
	expectNone(t, strings.Repeat("upload 1\ntop\n.\n", mostCommands+1), much, 3*mostCommands+1)
	expectTold(t, strings.Repeat("tick 1\n", mostCommands), strings.Repeat("none\n", mostCommands))
	for _, pattern := range patterns() {
		expectNone(t, tops(mostCommands)+ended(filled(pattern)), much, mostCommands+1)
		told(t, tops(mostCommands-1)+ended(filled(pattern)))
	}
	expectNone(t, strings.Repeat(plain, mostCommands+1), much, mostCommands+1)
	expectTold(t, strings.Repeat(plain, mostCommands), strings.Repeat("ok\n", mostCommands))

	// The first of both: a wrong line ahead of the 1001st command, at it, behind it.
	for _, line := range []string{"x", "tick", "tick 05", "enter 1 limit buy 5", "top 1", ".", "market 1"} {
		expectNone(t, line+"\n"+tops(mostCommands+1), wrong, 1)
		expectNone(t, tops(500)+line+"\n"+tops(mostCommands), wrong, 501)
		expectNone(t, tops(mostCommands-1)+line+"\n"+tops(5), wrong, mostCommands)
		expectNone(t, tops(mostCommands)+line+"\n"+tops(5), wrong, mostCommands+1)
		expectNone(t, tops(mostCommands)+"#\n"+line, wrong, mostCommands+2)
		expectNone(t, tops(mostCommands)+"top\n"+line, much, mostCommands+1)
		expectNone(t, tops(mostCommands+500)+line, much, mostCommands+1)
	}
	// An upload without an end is wrong at its own line.
	expectNone(t, tops(mostCommands)+"upload 1\ntop\n", wrong, mostCommands+1)
	expectNone(t, tops(mostCommands+1)+"upload 1\ntop\n", much, mostCommands+1)
	expectNone(t, tops(mostCommands-1)+"upload 1\n"+tops(9), wrong, mostCommands)
	expectNone(t, tops(3)+"upload 1\n"+tops(mostCommands+9), wrong, 4)
}

// Of a script that is refused nothing is told, not even what stands ahead of what is wrong.
func TestNothingIsDone(t *testing.T) {
	expectNone(t, busy()+"x", wrong, strings.Count(busy(), "\n")+1)
	ahead := ""
	for _, piece := range pieces(busy()) {
		expectNone(t, ahead+"# so far\nwrong here\n", wrong, strings.Count(ahead, "\n")+2)
		ahead += piece
	}
}

// full is a script that tells so many bytes, a few ahead of which its last command is to tell; and how many lines it has.
type full struct {
	script strings.Builder
	told   int
	lines  int
}

func (f *full) line(s string, tells int) {
	f.script.WriteString(s + "\n")
	f.told += tells
	f.lines += 1 + strings.Count(s, "\n")
}

// filledTo is one that tells just so many bytes, by at most 900 commands.
func filledTo(t *testing.T, bytes int) *full {
	t.Helper()
	f := &full{}
	f.line(wide(9)[:len(wide(9))-1], len("ok\n"))
	book := len("ok\n")
	for k := 1; k <= 256; k++ {
		line := fmt.Sprintf("%d %d buy 1.000000000 1000000000\n", k, 1+k%8)
		f.line(fmt.Sprintf("enter %d limit buy 1000000000 1", 1+k%8), len(fmt.Sprintf("ok %d\n", k))+len("accepted rested ")+2*len(line))
		book += len(line)
	}
	for f.told+book <= bytes-6000 {
		f.line("book", book)
	}
	for f.told+100 <= bytes {
		f.line("top", len("ok\ntop 1.000000000 0.000000000 0.000000000 0 0\n"))
	}
	// 3 bytes and 11 bytes make each number from 20 on.
	for (bytes-f.told)%3 != 0 {
		f.line("cancel 1 999", len("refused 90\n"))
	}
	for f.told < bytes {
		f.line("tick 0", len("ok\n"))
	}
	if f.told != bytes || f.lines > 900 {
		t.Fatalf("%d bytes by %d lines; want %d", f.told, f.lines, bytes)
	}
	return f
}

// L3: how much may be told.
func TestMuchTold(t *testing.T) {
	for _, most := range []int{mostTold - 1, mostTold} {
		f := filledTo(t, most)
		told := told(t, f.script.String())
		if len(told) != most {
			t.Fatalf("%d bytes; want %d", len(told), most)
		}
		expectModel(t, f.script.String())
		// Lines that say nothing tell nothing.
		expectTold(t, f.script.String()+"\n# x\n  \n", told)
	}

	f := filledTo(t, mostTold)
	expectNone(t, f.script.String()+"tick 0", much, f.lines+1)
	expectNone(t, f.script.String()+"\n#\ntick 0\ntop\nbook\n", much, f.lines+3)
	expectNone(t, f.script.String()+upload(1, "\n\n\n")+"top", much, f.lines+1)

	// One byte more: each command by which it comes.
	for line, tells := range map[string]int{
		"tick 0": 3, "cancel 1 999": 11, "quota 1": len("ok\nused 0 32 32000000000 32\n"), "top": len("ok\ntop 1.000000000 0.000000000 0.000000000 0 0\n"), "upload 1\nx\n.": len("refused 130 at 0\n"), "torn 999999": 12,
		"enter 1 market buy 1": len("ok 257\naccepted 257 1 buy 0.000000000 1\ndropped 257 1 buy 0.000000000 1\n"), "enter 1 limit buy 1 0.1234567890": 0, "market 1 1 1 1 1 1 1 1 1 1 1 1 1 1 1 10": 10, plain[:len(plain)-1]: 3,
	} {
		if tells == 0 {
			f := filledTo(t, mostTold)
			expectNone(t, f.script.String()+line, wrong, f.lines+1)
			continue
		}
		for more := range 3 {
			f := filledTo(t, mostTold-tells+more)
			script := "#\n" + f.script.String() + "\n" + line + "\n"
			if more == 0 {
				if s := told(t, script); len(s) != mostTold {
					t.Errorf("%q: %d bytes", line, len(s))
				}
			} else {
				expectNone(t, script, much, f.lines+3)
				expectNone(t, script+"tick 0\n\nbook\n", much, f.lines+3)
			}
		}
	}
	// In the midst of a book, and of a book that is far too much.
	for _, left := range []int{1, 2, 3, 4, 100, 5000} {
		f := filledTo(t, mostTold-left)
		expectNone(t, f.script.String()+"book\ntop", much, f.lines+1)
	}

	// What is wrong, and one command too many, come ahead of it: all is read ahead of what is done.
	f = filledTo(t, mostTold)
	expectNone(t, f.script.String()+"tick 0\ntick 0\nx", wrong, f.lines+3)
	expectNone(t, f.script.String()+strings.Repeat("tick 0\n", mostCommands-f.lines)+"\ntick 0", much, mostCommands+2)
	expectNone(t, f.script.String()+strings.Repeat("tick 0\n", mostCommands-f.lines), much, f.lines+1)
}

// Several wrong at once: by the order of Run's own words.
func TestSeveralWrong(t *testing.T) {
	tops := strings.Repeat("top\n", mostCommands)
	expectNone(t, tops+"top\nx"+strings.Repeat(" ", mostBytes), long, 0)
	expectNone(t, "x\ny\nupload 1\n", wrong, 1)
	expectNone(t, "\nupload 1\nx\ny", wrong, 2)
	expectNone(t, "upload x\nx\n.", wrong, 1)
	expectNone(t, "upload\nx\n.", wrong, 1)
	expectNone(t, "upload 1 1\nx\n", wrong, 1)
	expectNone(t, "upload 05\n.\nx", wrong, 1)
	if told, no, line := lab.Run(tops + "tick 05\ntick 06\n"); told != "" || no != api.ErrLabLine || line != mostCommands+1 {
		t.Error(told, no, line)
	}
}
