package lab_test

import (
	"fmt"
	"strings"
	"testing"
)

// drawer draws scripts, in which what is right, what is just right, what is refused and what is wrong all come.
type drawer struct {
	below  func(n int) int
	places int
	now    int
}

func drawn(from uint64) *drawer { return &drawer{below: draw(from)} }

func (d *drawer) one(l ...string) string { return l[d.below(len(l))] }

func (d *drawer) number(l ...int) int { return l[d.below(len(l))] }

// market is one in which little has room, mostly.
func (d *drawer) market() string {
	d.places, d.now = d.number(0, 1, 2, 2, 2, 3, 9), 0
	places := d.places
	if d.below(15) == 0 {
		places = d.number(-1, 10)
	}
	return fmt.Sprintf("market %d %d %d 2 %d 12 %d %d %d %d %d %d %d %d %d %d\n", d.number(1, 2, 2, 3, 8), d.number(1, 1, 2), d.number(1, 1, 2), d.number(20, 1000, 100000), d.number(4, 16, 256), d.number(3, 8, 128),
		d.number(20, 1000, 100000), d.number(20, 1000), d.number(0, 1, 2, 3, 3, 3, 16), d.number(1, 2, 3, 8), d.number(2, 4, 256), d.number(4, 10, 40, 1000000), d.number(1, 5, 30), places)
}

// whole is a number, mostly a small one.
func (d *drawer) whole() string {
	if d.below(20) == 0 {
		return d.one("-1", "-0", "0", "9223372036854775807", "-9223372036854775808", "1000000000000000", "1000000000000001", "4294967297")
	}
	return fmt.Sprint(d.number(1, 1, 1, 2, 2, 3))
}

// price is one of a few ticks, written so or so.
func (d *drawer) price() string {
	if d.below(12) == 0 {
		return d.one("0", "-1", "-0.0", "9223372036854775807", "0.000000001", "1.0000000", "1000000000", "922337203685477580.7")
	}
	digits := fmt.Sprintf("%0*d", d.places+1, 2+d.below(9))
	whole, behind := digits[:len(digits)-d.places], digits[len(digits)-d.places:]
	if d.below(2) == 0 {
		behind = strings.TrimRight(behind, "0")
	}
	if behind == "" {
		return whole
	}
	return whole + "." + behind
}

func (d *drawer) source() string {
	return d.one(hunter, hunter, taker, clock, faulter, poster, halter, "", "strategy", "strategy s { state a & }", "x\n\n y", "a\x00\xff\x80b", " .", "..\n. ", "# top", "upload 1\ntick 5", "strategy s {\n state a\n {\n}\n}",
		"strategy s { reg n int = 0; state a { when has bid && n < 4 do submit sell of 1q at bid fok, submit buy of 1q at 2p post, set n = n + 1; when volume > 9q do goto b; } state b { when now > 20t do halt; } }")
}

// command is a line, with what must stand behind it.
func (d *drawer) command() string {
	switch d.below(26) {
	case 0, 1, 2, 3, 4, 5, 6, 7:
		return fmt.Sprintf("enter %s %s %s %d %s\n", d.whole(), d.one("limit", "limit", "limit", "now", "all", "post"), d.one("buy", "sell"), 2+d.below(5), d.price())
	case 8:
		return fmt.Sprintf("enter %s market %s %d\n", d.whole(), d.one("buy", "sell"), 2+d.below(8))
	case 9, 10:
		return fmt.Sprintf("amend %s %d %d %s\n", d.whole(), 1+d.below(5), 2+d.below(5), d.price())
	case 11, 12:
		return fmt.Sprintf("cancel %s %d\n", d.whole(), 1+d.below(9))
	case 13, 14:
		d.now += d.below(4) - d.below(12)/11
		return fmt.Sprintf("tick %d\n", d.now)
	case 15, 16:
		return upload(1+d.below(2), d.source())
	case 17, 18:
		return "start " + d.whole() + " " + d.whole() + "\n"
	case 19:
		return d.one("stop ", "drop ") + d.whole() + " " + d.whole() + "\n"
	case 20:
		return d.one("book\n", "top\n")
	case 21:
		return "status " + d.whole() + "\n"
	case 22:
		return "quota " + d.whole() + "\n"
	case 23:
		return d.one("torn 0\n", "torn -1\n", "torn 1\n", fmt.Sprintf("torn %d\n", d.below(40)), "torn 500\n")
	case 24:
		if d.below(5) == 0 {
			return d.market()
		}
	}
	return d.nothing()
}

// nothing is a line that says nothing.
func (d *drawer) nothing() string {
	return d.one("\n", " \n", "     \n", "#\n", "# top\n", "  #x # y\n", "#\t\r\x00\xff\n", "# upload 1\n")
}

// script is a whole one, in pieces of whole lines; nothing in it is wrong.
func (d *drawer) script(many int) []string {
	all := []string{d.nothing(), d.command(), d.market(), d.market()}
	for range many {
		all = append(all, d.loose(d.command()))
	}
	return all
}

// loose is a line with blanks put in where they say nothing; an upload's source stays.
func (d *drawer) loose(lines string) string {
	line, behind, _ := strings.Cut(lines, "\n")
	if d.below(6) == 0 && !strings.HasPrefix(line, "#") {
		line = strings.Repeat(" ", d.below(3)) + strings.ReplaceAll(line, " ", strings.Repeat(" ", 1+d.below(3))) + strings.Repeat(" ", d.below(3))
	}
	return line + "\n" + behind
}

// Drawn scripts tell what the model tells.
func TestDrawnScripts(t *testing.T) {
	reached := map[string]int{}
	for seed := range uint64(1500) {
		for line := range strings.Lines(expectModel(t, strings.Join(drawn(seed).script(60), ""))) {
			word, behind, _ := strings.Cut(strings.TrimSpace(line), " ")
			if word == "refused" {
				word += " " + behind
			}
			reached[word]++
		}
	}
	for _, word := range strings.Fields("none ok accepted withdrawn dropped rested traded yielded amended reduced fired over rejected halted faulted cut strategy regs slots sees used top") {
		if reached[word] < 8 {
			t.Errorf("%s was told %d times", word, reached[word])
		}
	}
	for _, no := range []int{1, 20, 21, 60, 61, 74, 75, 80, 81, 90, 91, 92, 93, 94, 220, 221, 222, 230, 232, 233, 234, 235, 236, 237, 250} {
		if reached[fmt.Sprint("refused ", no)] < 3 {
			t.Errorf("refused %d was told %d times", no, reached[fmt.Sprint("refused ", no)])
		}
	}
}

// Drawn scripts in which something is not as it should be: a byte more, less, or another one; a word, a line.
func TestDrawnSlips(t *testing.T) {
	reached := map[string]int{}
	for seed := range uint64(6000) {
		d := drawn(seed + 50000)
		script := strings.Join(d.script(d.below(12)), "")
		for range 1 + d.below(2) {
			at := d.below(len(script) + 1)
			behind := min(len(script), at+d.below(3))
			script = script[:at] + d.one("", "", " ", "\n", "#", ".", "0", "1", "-", "x", "\t", "\r", " 1", "\ntop\n", "\n.\n", "upload 1\n", ".5", "buy", "\xff", "9999999999") + script[behind:]
		}
		if expectModel(t, script) == "" {
			reached["wrong"]++
		} else {
			reached["right"]++
		}
	}
	if reached["wrong"] < 800 || reached["right"] < 800 {
		t.Error(reached)
	}
}

// Drawn lines of the words that there are.
func TestDrawnLines(t *testing.T) {
	right := 0
	for seed := range uint64(30000) {
		d := drawn(seed + 90000)
		words := []string{d.one("enter", "amend", "cancel", "tick", "upload", "start", "stop", "drop", "book", "status", "quota", "top", "torn", "x", "#", "")}
		for range d.below(6) {
			words = append(words, d.one("1", "2", "0", "-3", "05", "1.5", "1.50", "1.", "limit", "market", "now", "all", "post", "buy", "sell", "buys", "", "#", "."))
		}
		if expectModel(t, plain+"enter 1 limit buy 5 1\n"+strings.Join(words, " ")+d.one("", "\n", "\n.", "\n.\ntop")) != "" {
			right++
		}
	}
	if right < 1500 {
		t.Error(right)
	}
}
