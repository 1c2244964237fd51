package lab_test

import (
	"fmt"
	"strings"
	"sync"
	"testing"

	"tripwire/api"
	"tripwire/lab"
)

// scripts are some of which much comes.
func scripts() [][]string {
	all := [][]string{pieces(busy()), pieces(example)}
	for seed := range uint64(60) {
		all = append(all, drawn(seed+200000).script(50))
	}
	return all
}

// A script tells the same each time, whatever was told between.
func TestTheSameEachTime(t *testing.T) {
	first := map[string]string{}
	for range 3 {
		for k, l := range scripts() {
			script := strings.Join(l, "")
			if k%5 == 0 {
				script += "wrong"
			}
			s, no, line := lab.Run(script)
			was, is := first[script]
			if now := fmt.Sprint(s, no, line); !is {
				first[script] = now
			} else if was != now {
				t.Fatalf("%s\ntells %s; it told %s", script, now, was)
			}
		}
	}
}

// R4: scripts that are done at the same time know nothing of one another.
func TestAtTheSameTime(t *testing.T) {
	var all sync.WaitGroup
	for _, l := range scripts()[:20] {
		script := strings.Join(l, "")
		want, wantNo, wantLine := lab.Run(script)
		for range 3 {
			all.Go(func() {
				for range 3 {
					if s, no, line := lab.Run(script); s != want || no != wantNo || line != wantLine {
						t.Errorf("%s\ntells %s, %d, %d; alone %s, %d, %d", script, s, no, line, want, wantNo, wantLine)
					}
				}
			})
		}
	}
	all.Wait()
}

// Lines that say nothing change nothing, wherever they stand.
func TestLinesThatSayNothing(t *testing.T) {
	nothing := []string{"\n", "  \n", "#\n", "# top\n", "   #x\n", "#upload 1\n", "# .\n", "\n\n#\n \n"}
	for k, l := range scripts() {
		want := told(t, strings.Join(l, ""))
		for _, n := range nothing {
			expectTold(t, n+strings.Join(l, n), want)
			expectTold(t, strings.Join(l, n)+n, want)
		}
		if k > 3 {
			continue
		}
		for at := range len(l) + 1 {
			for _, n := range nothing {
				expectTold(t, strings.Join(l[:at], "")+n+strings.Join(l[at:], ""), want)
			}
		}
	}
	// Blanks at both ends of a line, and more of them between its words, are nothing; in a source they are.
	blank := strings.NewReplacer(" ", "   ")
	for _, l := range scripts() {
		loose := ""
		for _, piece := range l {
			line, behind, _ := strings.Cut(piece, "\n")
			loose += "  " + blank.Replace(line) + " \n" + behind
		}
		expectTold(t, loose, told(t, strings.Join(l, "")))
	}
}

// What a script tells begins with what any first part of it tells, that is a script.
func TestAnyFirstPart(t *testing.T) {
	for _, l := range scripts() {
		whole, last := told(t, strings.Join(l, "")), ""
		for n := range len(l) + 1 {
			part := told(t, strings.Join(l[:n], ""))
			if !strings.HasPrefix(whole, part) || !strings.HasPrefix(part, last) {
				t.Fatalf("%s\ntells %s; a first part of it %s, one of that %s", strings.Join(l, ""), whole, part, last)
			}
			last = part
		}
		if last != whole {
			t.Errorf("%s; of all %s", whole, last)
		}
	}
	// Line by line: a part that ends in a source is none.
	script, ahead, within := busy(), "", 0
	for n := range strings.Lines(script) {
		ahead += n
		if strings.HasPrefix(n, "upload") {
			within = strings.Count(ahead, "\n")
		} else if n == ".\n" {
			within = 0
		}
		if within > 0 {
			expectNone(t, ahead, wrong, within)
		} else if !strings.HasPrefix(told(t, script), told(t, ahead)) {
			t.Errorf("%s tells %s", short(ahead), told(t, ahead))
		}
	}
}

// `torn 0` changes nothing but for its own line, wherever it stands.
func TestTornOfNothing(t *testing.T) {
	for k, l := range scripts() {
		if k > 25 {
			break
		}
		whole, every, want := told(t, strings.Join(l, "")), "", ""
		last := ""
		for n := range len(l) + 1 {
			ahead := strings.Join(l[:n], "")
			part := told(t, ahead)
			own := told(t, ahead+"torn 0\n")[len(part):]
			if own != "none\n" && !strings.HasPrefix(own, "ok ") || strings.Count(own, "\n") != 1 {
				t.Errorf("%s\nits own line is %q", ahead, own)
			}
			expectTold(t, ahead+"torn 0\n"+strings.Join(l[n:], ""), part+own+whole[len(part):])
			want += part[len(last):] + own
			every, last = every+"torn 0\n", part
			if n < len(l) {
				every += l[n]
			}
		}
		expectTold(t, every, want)
	}
}

// T9: of any first part of a journal comes the market as it was behind some first part of its commands, and goes on as that one did.
func TestAJournalIsEnough(t *testing.T) {
	const asks = "book\ntop\nquota 1\nquota 2\nstatus 1\nstatus 2\nstatus 3\nstatus 4\nstatus 5\nstatus 6\n"
	all := pieces(busy())
	script := busy()
	was := told(t, script)
	bytes := 0
	if _, err := fmt.Sscanf(told(t, script+"torn 0")[len(was):], "ok %d", &bytes); err != nil {
		t.Fatal(err)
	}
	// How it was, by how many bytes it had.
	then := map[string]string{}
	for n := 1; n <= len(all); n++ {
		ahead := strings.Join(all[:n], "")
		part := told(t, ahead)
		taken := told(t, ahead+"torn 0\n")[len(part):]
		then[taken] = told(t, ahead+asks)[len(part):]
	}
	for torn := range bytes + 1 {
		s := told(t, fmt.Sprintf("%storn %d\n%s", script, torn, asks))[len(was):]
		taken, answers, _ := strings.Cut(s, "\n")
		switch want, is := then[taken+"\n"]; {
		case bytes-torn < 26:
			if taken != "refused 250" || answers != then[fmt.Sprintf("ok %d\n", bytes)] {
				t.Fatalf("torn %d: %s", torn, s)
			}
		case !is || answers != want:
			t.Fatalf("torn %d: %s; want %s", torn, s, want)
		}
	}
}

// R2: what a script tells is a text of its own, whatever becomes of what was handed in.
func TestTextsThatAreHandedIn(t *testing.T) {
	long := strings.Repeat("#", 100) + "\n" + example + strings.Repeat("x", 100)
	expectTold(t, long[101:101+len(example)], exampleTold)
	expectTold(t, example, exampleTold)
}

func TestNumbersOfErrors(t *testing.T) {
	for no, want := range map[api.Errno]int{wrong: 260, long: 261, much: 262} {
		if int(no) != want {
			t.Error(no, want)
		}
	}
}
