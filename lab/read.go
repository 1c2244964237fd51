package lab

import (
	"strings"

	"tripwire/api"
	"tripwire/decimal"
)

// step is one command of a script, as far as it can be told without a market.
type step struct {
	api.Command
	line    int
	numbers []int64 // those of a command that no Op names
	digits  string  // its price: which one that is depends on the market's places
	deed    deed
	ahead   bool
}

// reader reads a script line by line, and a line word by word.
type reader struct {
	table map[string]command
	lines []string
	at    int      // how many of them were read
	words []string // those of the line at hand that were not read yet
	step           // what was read of it
}

// steps are a script's commands, in order.
func steps(script string) []step {
	if len(script) > api.MaxScript {
		panic(fault{api.ErrLabLong, 0})
	}
	r := &reader{table: commands(), lines: strings.Split(script, "\n")}
	var all []step
	for r.goesOn() {
		r.command()
		if len(all) == api.MaxGoes {
			panic(fault{api.ErrLabMuch, r.line})
		}
		all = append(all, r.step)
	}
	return all
}

// goesOn goes to the next line that says something, if there is one.
func (r *reader) goesOn() bool {
	for r.at < len(r.lines) {
		r.words = wordsOf(r.lines[r.at])
		r.at++
		if len(r.words) > 0 && !strings.HasPrefix(r.words[0], "#") {
			return true
		}
	}
	return false
}

// wordsOf are a line's words: a blank alone parts them, no other white space.
func wordsOf(line string) []string {
	return strings.FieldsFunc(line, func(c rune) bool { return c == ' ' })
}

// command reads the one that begins at the line at hand.
func (r *reader) command() {
	r.step = step{line: r.at}
	c, is := r.table[r.word()]
	r.need(is)
	r.Op, r.deed, r.ahead = c.op, c.deed, c.ahead
	for _, one := range c.parts {
		one(r)
	}
	r.need(len(r.words) == 0)
}

// need gives up a script whose line at hand is none that may be.
func (r *reader) need(is bool) {
	if !is {
		panic(fault{api.ErrLabLine, r.line})
	}
}

// word is the next one of the line.
func (r *reader) word() string {
	r.need(len(r.words) > 0)
	w := r.words[0]
	r.words = r.words[1:]
	return w
}

// whole is the number that is the next word.
func (r *reader) whole() int64 {
	n, no, _ := decimal.Parse(r.word(), 0)
	r.need(no == api.OK)
	return n
}

// among is which one of some names the next word is: the names' place 0 has none.
func (r *reader) among(names ...string) int {
	w := r.word()
	for n, name := range names {
		if n > 0 && w == name {
			return n
		}
	}
	r.need(false)
	return 0
}
