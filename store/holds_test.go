package store_test

import (
	"sync"
	"testing"

	"tripwire/api"
	"tripwire/store"
)

// T7: Read of Command is the command, but for what its Op does not name; Command of Read are the bytes.
func TestThereAndBack(t *testing.T) {
	for seed := range uint64(50) {
		d := drawn(seed + 20000)
		for range 400 {
			c := d.anythingThatIs()
			b, no := store.Command(c)
			if no != api.OK {
				t.Fatal(c, no)
			}
			x, to, no := store.Read(b, 0)
			if x != named(c) || to != len(b) || no != api.OK {
				t.Fatalf("Read of Command(%s) is %s, %d, %d", short(c), short(x), to, no)
			}
			if again, _ := store.Command(x); again != b {
				t.Fatalf("Command of Read(%s) is %s", short(b), short(again))
			}
		}
	}
	// What Read takes, of any bytes, is written as it stood there.
	taken := 0
	for seed := range uint64(20000) {
		below := draw(seed + 30000)
		b := []byte{byte(1 + below(11))}
		for range below(14) {
			b = append(b, []byte{0, 1, 2, 127, 128, 255, byte(below(256))}[below(7)])
		}
		if c, to, no := store.Read(string(b), 0); no == api.OK {
			taken++
			if again, no := store.Command(c); again != string(b[:to]) || no != api.OK {
				t.Fatalf("Command of Read(% x) is % x, %d", b, again, no)
			}
		}
	}
	if taken < 5000 {
		t.Errorf("only %d were taken", taken)
	}
}

// T9: of any first part of a journal's bytes that has its first frame comes the venue as it was behind just those commands whose frames are whole; of less, none.
func TestAnyFirstPart(t *testing.T) {
	j, v := made(t, plain())
	ends, dumps := []int{len(j.Bytes())}, []dump{seen(v)}
	for _, c := range busy() {
		done(t, j, c)
		ends, dumps = append(ends, len(j.Bytes())), append(dumps, seen(v))
	}
	b, k := j.Bytes(), 0
	for n := range len(b) + 1 {
		if n < ends[0] {
			expectNotOpened(t, b[:n], noForm)
			continue
		}
		if k+1 < len(ends) && n == ends[k+1] {
			k++
		}
		if _, w := opened(t, b[:n], ends[k]); !same(seen(w), dumps[k]) {
			t.Fatalf("of %d bytes %+v; behind %d commands it was %+v", n, seen(w), k, dumps[k])
		}
	}
	if k != len(busy()) {
		t.Error(k)
	}
}

// What is opened goes on as the one that was not closed: reply by reply, and byte by byte; from the place behind each command.
func TestItGoesOn(t *testing.T) {
	all := busy()
	for n := range len(all) + 1 {
		j, v := written(t, plain(), all[:n]...)
		ahead := j.Bytes()
		for _, torn := range []string{"", "\x02", "\x02\x04\x0a", "??????????"} {
			k, w := opened(t, ahead+torn, len(ahead))
			j, v = written(t, plain(), all[:n]...)
			for _, c := range all[n:] {
				r, no := j.Do(c)
				x, no2 := k.Do(c)
				if !same(r, x) || no != no2 || j.Bytes() != k.Bytes() {
					t.Fatalf("%s is %+v; opened behind %d commands %+v", short(c), r, n, x)
				}
			}
			if !same(seen(v), seen(w)) {
				t.Fatalf("%+v; opened behind %d commands %+v", seen(v), n, seen(w))
			}
		}
	}
}

// The same of drawn scripts, closed and opened again and again.
func TestItGoesOnAgainAndAgain(t *testing.T) {
	for seed := range uint64(150) {
		d := drawn(seed + 40000)
		j, v := made(t, d.c)
		k, w := made(t, d.c)
		for range 60 {
			if d.below(6) == 0 {
				b := k.Bytes()
				k, w = opened(t, b+blanks(d.below(3)), len(b))
			}
			c := d.command(v)
			r, no := j.Do(c)
			x, no2 := k.Do(c)
			if !same(r, x) || no != no2 || j.Bytes() != k.Bytes() {
				t.Fatalf("%s is %+v, %d; of what was opened %+v, %d", short(c), r, no, x, no2)
			}
		}
		if !same(seen(v), seen(w)) {
			t.Fatalf("%+v; of what was opened %+v", seen(v), seen(w))
		}
	}
}

// One byte is another one, at each place behind the first frame: if it is one of a frame's content or check, just the commands ahead of that frame are done; if it is one of a frame's length, what the bytes say then.
func TestOneByteIsAnotherOne(t *testing.T) {
	l := []api.Command{upload(1, hunter), start(1, 1), sell(2, 10, 5), amend(2, 1, 9, 4), tick(3), upload(2, "strategy"), cancel(2, 1), book()}
	b := modelWritten(plain(), l...)
	m, _ := modelOpen(b)
	var dumps []dump
	for n := range len(l) + 1 {
		dumps = append(dumps, seen(doneBy(t, plain(), l[:n]...)))
	}
	k := 0
	for at := m.ends[0]; at < len(b); at++ {
		if at == m.ends[k+1] {
			k++
		}
		content, _ := modelBytes(l[k])
		ofLength := at < m.ends[k+1]-4-len(content)
		for x := 1; x < 256; x++ {
			bytes := []byte(b)
			bytes[at] ^= byte(x)
			if ofLength {
				expectModelOpened(t, string(bytes))
				continue
			}
			if _, w := opened(t, string(bytes), m.ends[k]); !same(seen(w), dumps[k]) {
				t.Fatalf("byte %d is another one: %+v; want %+v", at, seen(w), dumps[k])
			}
		}
	}
	if k != len(l)-1 {
		t.Error(k)
	}
}

// The same of drawn journals, and of drawn bytes.
func TestOneByteOfADrawnJournal(t *testing.T) {
	for seed := range uint64(60) {
		d := drawn(seed + 50000)
		j, v := made(t, d.c)
		for range 30 {
			j.Do(d.command(v))
		}
		b := j.Bytes()
		for range 30 {
			bytes := []byte(b)
			bytes[d.below(len(b))] ^= byte(1 + d.below(255))
			expectModelOpened(t, string(bytes))
		}
	}
}

// T4, R8: what a journal refuses leaves all as it was: so nothing can be told from one that was never asked.
func TestRefusedIsNotDone(t *testing.T) {
	refused := 0
	for seed := range uint64(60) {
		d := drawn(seed + 60000)
		j, v := made(t, d.c)
		without, w := made(t, d.c)
		for range 60 {
			for _, c := range []api.Command{{Op: api.Op(12 + d.below(244))}, upload(1, blanks(65532+d.below(10)))} {
				if d.below(4) == 0 {
					refused++
					if r, no := j.Do(c); no != noForm || !same(r, api.Reply{}) {
						t.Fatal(r, no)
					}
				}
			}
			c := d.command(v)
			r, no := j.Do(c)
			if no != api.OK {
				refused++
				continue
			}
			if want := done(t, without, c); !same(r, want) {
				t.Fatalf("%s is %+v; without what was refused %+v", short(c), r, want)
			}
		}
		if !same(seen(v), seen(w)) || j.Bytes() != without.Bytes() {
			t.Fatalf("%+v; without what was refused %+v", seen(v), seen(w))
		}
	}
	if refused < 1000 {
		t.Errorf("only %d were refused", refused)
	}
}

// script is drawn commands of one journal, and what they came to.
type script struct {
	c        api.Config
	commands []api.Command
	replies  []api.Reply
	bytes    string
	behind   dump
}

func scripted(from uint64, commands int) script {
	d := drawn(from)
	s := script{c: d.c}
	j, v, _ := store.New(d.c)
	for range commands {
		c := d.command(v)
		r, _ := j.Do(c)
		s.commands, s.replies = append(s.commands, c), append(s.replies, r)
	}
	s.bytes, s.behind = j.Bytes(), seen(v)
	return s
}

// Journals know nothing of one another (R4): scripts that run in turn say what each says alone; and the same script says the same.
func TestSideBySide(t *testing.T) {
	for seed := range uint64(30) {
		all := []script{scripted(seed+70000, 50), scripted(seed+71000, 50), scripted(seed+72000, 50)}
		all = append(all, all[0])
		var journals []*store.Journal
		for _, s := range all {
			j, _ := made(t, s.c)
			journals = append(journals, j)
		}
		for k := range 50 {
			for i, s := range all {
				if r, _ := journals[i].Do(s.commands[k]); !same(r, s.replies[k]) {
					t.Fatalf("%s is %+v; alone it was %+v", short(s.commands[k]), r, s.replies[k])
				}
			}
		}
		for i, s := range all {
			if journals[i].Bytes() != s.bytes {
				t.Fatalf("%s; alone %s", short(journals[i].Bytes()), short(s.bytes))
			}
			if _, v := opened(t, s.bytes, len(s.bytes)); !same(seen(v), s.behind) {
				t.Fatalf("%+v; alone %+v", seen(v), s.behind)
			}
		}
	}
}

// Two journals side by side, written out.
func TestTwoJournals(t *testing.T) {
	one, v := written(t, plain(), upload(1, hunter), start(1, 1))
	two, w := written(t, plain(), upload(1, clock))
	done(t, one, sell(2, 10, 5))
	done(t, two, tick(8))
	if v.Now() != 0 || w.Top() != (api.Top{}) || w.Now() != 8 || v.Top().Volume != 2 {
		t.Error(v.Now(), v.Top(), w.Now(), w.Top())
	}
	if one.Bytes() != plainFrame+frames(upload(1, hunter), start(1, 1), sell(2, 10, 5)) || two.Bytes() != plainFrame+frames(upload(1, clock), tick(8)) {
		t.Error(short(one.Bytes()), short(two.Bytes()))
	}
}

// The same at the same time, each journal by one caller.
func TestAtTheSameTime(t *testing.T) {
	all := []script{scripted(80000, 100), scripted(80001, 100), scripted(80002, 100)}
	var wait sync.WaitGroup
	for range 3 {
		for _, s := range all {
			wait.Go(func() {
				j, _, _ := store.New(s.c)
				for k, c := range s.commands {
					if r, _ := j.Do(c); !same(r, s.replies[k]) {
						t.Errorf("%s is %+v; alone it was %+v", short(c), r, s.replies[k])
						return
					}
				}
				_, v, n, no := store.Open(s.bytes + "?")
				if j.Bytes() != s.bytes || n != len(s.bytes) || no != api.OK || !same(seen(v), s.behind) {
					t.Errorf("%s, %d, %d", short(j.Bytes()), n, no)
				}
			})
		}
	}
	wait.Wait()
}
