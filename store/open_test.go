package store_test

import (
	"strings"
	"testing"

	"tripwire/api"
	"tripwire/store"
	"tripwire/venue"
)

// frames are commands' frames, one behind the other.
func frames(l ...api.Command) string {
	return strings.TrimPrefix(modelWritten(plain(), l...), plainFrame)
}

// doneBy is a venue in which these were done, by itself.
func doneBy(t *testing.T, c api.Config, l ...api.Command) *venue.Venue {
	t.Helper()
	v, no := venue.New(c)
	if no != api.OK {
		t.Fatal(no)
	}
	for _, x := range l {
		v.Do(x)
	}
	return v
}

// expectOpened tells whether of bytes just so many of plain's are taken, with these commands.
func expectOpened(t *testing.T, b string, l ...api.Command) {
	t.Helper()
	_, v := opened(t, b, len(modelWritten(plain(), l...)))
	if want := seen(doneBy(t, plain(), l...)); !same(seen(v), want) {
		t.Errorf("Open(%s) stands %+v; want %+v", short(b), seen(v), want)
	}
}

// Journals of no command, of one, of many; of commands that are refused, of uploads, starts, cascades.
func TestOpen(t *testing.T) {
	expectOpened(t, plainFrame)
	all := busy()
	for n := range len(all) + 1 {
		j, v := written(t, plain(), all[:n]...)
		expectOpened(t, j.Bytes(), all[:n]...)
		_, w := opened(t, j.Bytes(), len(j.Bytes()))
		if !same(seen(v), seen(w)) {
			t.Errorf("%+v; it was %+v", seen(w), seen(v))
		}
	}
	for _, s := range samples() {
		j, _ := written(t, plain(), s.c)
		expectOpened(t, j.Bytes(), s.c)
	}
}

// Bytes whose first frame is none.
func TestNoFirstFrame(t *testing.T) {
	expectNotOpened(t, "", noForm)
	for n := range plainFrame {
		expectNotOpened(t, plainFrame[:n], noForm)
		expectNotOpened(t, plainFrame[n+1:], noForm)
		for x := 1; x < 256; x++ {
			b := []byte(plainFrame)
			b[n] ^= byte(x)
			expectNotOpened(t, string(b), noForm)
			expectNotOpened(t, string(b)+frames(busy()...), noForm)
		}
	}
	expectNotOpened(t, "\x00"+plainFrame, noForm)
	expectNotOpened(t, frames(busy()...), noForm)
	expectNotOpened(t, blanks(1000), noForm)
	expectNotOpened(t, longer(plainFrame[:1])+plainFrame[1:], noForm)
	expectNotOpened(t, modelFrame(blanks(65537)), noForm)
}

// First frames that are frames, but of no config's numbers: none, too few, too many, one that is none, and something behind.
func TestNoConfig(t *testing.T) {
	all := modelNumbers(plain())
	content := numbersByZig(all...)
	for n := range all {
		expectNotOpened(t, modelFrame(numbersByZig(all[:n]...)), noForm)
		expectNotOpened(t, modelFrame(numbersByZig(all[:n]...))+frames(book()), noForm)
		expectNotOpened(t, modelFrame(numbersByZig(all[n+1:]...)), noForm)
		for _, instead := range []string{"\x80\x00", "\x82\x00", strings.Repeat("\xff", 9) + "\x02", strings.Repeat("\xff", 10) + "\x01"} {
			expectNotOpened(t, modelFrame(numbersByZig(all[:n]...)+instead+numbersByZig(all[n+1:]...)), noForm)
		}
	}
	for n := range content {
		expectNotOpened(t, modelFrame(content[:n]), noForm)
	}
	for _, behind := range []string{"\x00", "\x01", "\x80", "\xff", "\x02\x02", content, blanks(65536 - len(content))} {
		expectNotOpened(t, modelFrame(content+behind), noForm)
		expectNotOpened(t, modelFrame(content+behind)+frames(book()), noForm)
	}
	for _, s := range samples() {
		expectNotOpened(t, modelFrame(s.bytes())+plainFrame, noForm)
	}
	expectNotOpened(t, modelFrame(""), noForm)
	expectNotOpened(t, modelFrame(modelFrame(content)), noForm)
	// What is not by Zig is another config.
	expectNotOpened(t, modelFrame(numbers(2, 1, 1, 1, 100, 100, 16, 8, 1000, 1000, 3, 2, 8, 100, 10)), api.ErrRulesConfig)
}

// Several wrong at once: no form comes ahead of a config that is refused; too many bytes ahead of all.
func TestSeveralWrongInAJournal(t *testing.T) {
	bad := numbersByZig(modelNumbers(api.Config{})...)
	expectNotOpened(t, modelFrame(bad), api.ErrRulesConfig)
	expectNotOpened(t, modelFrame(bad)+"nothing", api.ErrRulesConfig)
	expectNotOpened(t, modelFrame(bad)+frames(busy()...), api.ErrRulesConfig)
	expectNotOpened(t, modelFrame(bad+"\x00"), noForm)
	expectNotOpened(t, modelFrame(bad)[:len(bad)+4], noForm)
	many := blanks(mostBytes)
	expectNotOpened(t, (modelFrame(bad) + many)[:mostBytes], api.ErrRulesConfig)
	expectNotOpened(t, (modelFrame(bad) + many)[:mostBytes+1], noForm)
	expectNotOpened(t, (plainFrame + many)[:mostBytes+1], noForm)
	expectOpened(t, (plainFrame + many)[:mostBytes])
	late := modelNumbers(with(func(c *api.Config) { c.Rounds, c.Strats = 0, 9 }))
	expectNotOpened(t, modelFrame(numbersByZig(late...)), api.ErrArg)
	late = modelNumbers(with(func(c *api.Config) { c.Rounds = 0 }))
	expectNotOpened(t, modelFrame(numbersByZig(late...))+frames(book()), api.ErrVenueConfig)
}

// Bytes of as many as may be, and of one more: what stands behind the whole frames does not matter.
func TestTheMostBytes(t *testing.T) {
	j, _ := filled(t, mostBytes)
	opened(t, j.Bytes(), mostBytes)
	for _, behind := range []string{"\x00", "?", frames(book())} {
		expectNotOpened(t, j.Bytes()+behind, noForm)
	}
	j, _ = filled(t, mostBytes-6)
	opened(t, j.Bytes()+frames(book()), mostBytes)
	opened(t, j.Bytes()+frames(book())[:5]+"?", mostBytes-6)
	expectNotOpened(t, j.Bytes()+frames(book())+"?", noForm)
	expectNotOpened(t, j.Bytes()+frames(tick(1)), noForm)
}

// Behind whole frames stands one that is none, or no command's: it is not taken, nor what stands behind it.
func TestWhereItEnds(t *testing.T) {
	ahead := []api.Command{upload(1, hunter), start(1, 1), sell(2, 10, 5)}
	good := frames(tick(4), sell(2, 11, 5))
	var all []string
	for _, content := range []string{"", "\x00", "\x0c", "\xff\x01", "\x80\x00", "\x81\x02", "\x84\x02\x0a", "\x04", "\x04\x80", "\x04\x8a\x00", "\x01\x04\x01\x02\x14", "\x01\x04\x80\x02\x02\x14\x0a", "\x01\x04\x01\x82\x02\x14\x0a", "\x05\x02\x03ab", "\x05\x02", blanks(65536)} {
		all = append(all, modelFrame(content))
	}
	for _, s := range samples() {
		for _, behind := range []string{"\x00", "\x09", s.bytes()} {
			all = append(all, modelFrame(s.bytes()+behind))
		}
		whole := modelFrame(s.bytes())
		all = append(all, longer(whole[:1])+whole[1:], whole[:len(whole)-1]+"?", s.bytes())
	}
	all = append(all, modelFrame(must(t, upload(1, blanks(65532)))), modelFrame(must(t, upload(1, blanks(65536)))))
	all = append(all, "\x80", "\xff", "\xff\xff\xff", strings.Repeat("\xff", 10), blanks(1000), plainFrame, "\x00", "\x01\x09", "\x00\x00\x00\x00\x00", good[1:])
	for _, wrong := range all {
		for _, behind := range []string{"", good, strings.Repeat(good, 20)} {
			expectModelOpened(t, modelWritten(plain(), ahead...)+wrong+behind)
		}
		expectOpened(t, modelWritten(plain(), ahead...)+wrong, ahead...)
		expectOpened(t, plainFrame+wrong)
	}
	// What is good behind it is taken, where nothing wrong stands ahead of it.
	expectOpened(t, modelWritten(plain(), ahead...)+good, append(ahead, tick(4), sell(2, 11, 5))...)
}

// must is a command's bytes.
func must(t *testing.T, c api.Command) string {
	t.Helper()
	b, is := modelBytes(c)
	if !is {
		t.Fatal(c)
	}
	return b
}

// expectModelOpened tells whether Open of bytes is as the model has it: how many are taken, and the venue behind the commands that stand there.
func expectModelOpened(t *testing.T, b string) (modelJournal, bool) {
	t.Helper()
	m, is := modelOpen(b)
	if !is {
		expectNotOpened(t, b, noForm)
		return m, false
	}
	if _, no := venue.New(m.config); no != api.OK {
		expectNotOpened(t, b, no)
		return m, false
	}
	_, v := opened(t, b, m.ends[len(m.commands)])
	if want := seen(doneBy(t, m.config, m.commands...)); !same(seen(v), want) {
		t.Errorf("Open(%s) stands %+v; want %+v", short(b), seen(v), want)
	}
	return m, true
}

// The commands are done, each once, in order, by what their bytes say alone.
func TestOpenedByTheirBytes(t *testing.T) {
	for seed := range uint64(100) {
		d := drawn(seed + 4000)
		j, v := made(t, d.c)
		var l []api.Command
		for range 60 {
			c := d.command(v)
			if _, no := j.Do(c); no == api.OK {
				l = append(l, named(c))
			}
		}
		m, is := expectModelOpened(t, j.Bytes())
		if !is || m.config != d.c || !same(m.commands, l) {
			t.Fatalf("%+v; want %+v", m, l)
		}
	}
}

// Drawn journals with slips: bytes that are others, that are left out, or laid between; frames that are cut out, or change places.
func TestDrawnJournals(t *testing.T) {
	taken := map[bool]int{}
	for seed := range uint64(2000) {
		d := drawn(seed + 5000)
		j, v := made(t, d.c)
		for range 4 + d.below(8) {
			j.Do(d.command(v))
		}
		b := []byte(j.Bytes())
		for range 1 + d.below(3) {
			at, to := d.below(len(b)), d.below(len(b)+1)
			at, to = min(at, to), max(at, to)
			switch d.below(5) {
			case 0:
				b[at] = byte(d.below(256))
			case 1:
				b = append(b[:at:at], b[to:]...)
			case 2:
				b = append(b[:at:at], append([]byte(blanks(d.below(4))), b[at:]...)...)
			case 3:
				b = append(b[:to:to], b[at:]...)
			}
			if len(b) == 0 {
				b = []byte{0}
			}
		}
		_, is := expectModelOpened(t, string(b))
		taken[is]++
	}
	expectReached(t, taken, 100, true, false)
}

// Any bytes at all, framed and not.
func TestOpenAnyBytes(t *testing.T) {
	for seed := range uint64(3000) {
		d := drawn(seed + 8000)
		b := ""
		for range d.below(5) {
			part := make([]byte, d.below(24))
			for i := range part {
				part[i] = byte(d.number(0, 1, 2, 4, 9, 128, d.below(256)))
			}
			switch d.below(4) {
			case 0:
				b += string(part)
			case 1:
				b += modelFrame(string(part))
			case 2:
				b += plainFrame
			default:
				b += frames(d.anythingThatIs())
			}
		}
		expectModelOpened(t, b)
		expectModelOpened(t, plainFrame+b)
	}
}

// anythingThatIs is any command that is one.
func (d *drawer) anythingThatIs() api.Command {
	c := d.anything()
	c.Op = api.Op(1 + d.below(11))
	return c
}

// The venue that Open tells is the journal's own, too.
func TestTheOpenedVenueIsItsOwn(t *testing.T) {
	j, _ := written(t, plain(), upload(1, hunter), start(1, 1))
	b := j.Bytes()
	k, w := opened(t, b, len(b))
	w.Do(tick(7))
	w.Upload(2, clock)
	if k.Bytes() != b {
		t.Error(short(k.Bytes()))
	}
	if r := done(t, k, sell(2, 10, 5)); r.Top.Volume != 2 || w.Top().Volume != 2 || w.Now() != 7 {
		t.Errorf("%+v", r)
	}
	if k.Bytes() != b+frames(sell(2, 10, 5)) || j.Bytes() != b {
		t.Error(short(k.Bytes()), short(j.Bytes()))
	}
}

// A journal that is opened keeps as many bytes as may be, with those that it had.
func TestAnOpenedJournalIsFullAtTheSame(t *testing.T) {
	j, _ := filled(t, mostBytes-12)
	b := j.Bytes()
	for _, behind := range []string{"", "?", "\x01\x09"} {
		k, w := opened(t, b+behind, len(b))
		expectRefused(t, k, w, sell(1, 1<<40, 1<<40), full)
		expectRefused(t, k, w, api.Command{}, noForm)
		done(t, k, book())
		done(t, k, book())
		expectRefused(t, k, w, book(), full)
		if k.Bytes() != b+frames(book(), book()) {
			t.Error(short(k.Bytes()))
		}
	}
}

// Open is asked in any order, and again, of the same bytes: each journal is one of its own.
func TestOpenAgain(t *testing.T) {
	j, _ := written(t, plain(), busy()...)
	b := j.Bytes()
	var journals []*store.Journal
	var venues []*venue.Venue
	for range 3 {
		k, w := opened(t, b, len(b))
		journals, venues = append(journals, k), append(venues, w)
	}
	done(t, journals[0], tick(100))
	done(t, journals[1], sell(1, 50, 1))
	if journals[2].Bytes() != b || venues[2].Now() != 25 || venues[1].Now() != 25 || venues[0].Now() != 100 {
		t.Error(venues[0].Now(), venues[1].Now(), venues[2].Now())
	}
	if journals[0].Bytes() != b+frames(tick(100)) || journals[1].Bytes() != b+frames(sell(1, 50, 1)) || j.Bytes() != b {
		t.Error(short(journals[0].Bytes()))
	}
}
