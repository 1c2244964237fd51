package eval_test

import (
	"slices"
	"testing"

	"tripwire/api"
	"tripwire/cost"
	"tripwire/lower"
	"tripwire/machine"
	"tripwire/mean"
	"tripwire/parse"
	"tripwire/snap"
	"tripwire/table"
)

// text is a strategy, what lower made of it, and what cost says of each of its states.
type text struct {
	s     api.Strategy
	x     api.Table
	costs []api.Cost
}

// texts are drawn ones that lower takes.
func texts(t *testing.T, from uint64, count int) []text {
	t.Helper()
	var all []text
	for k := range count {
		source := writer{draw(from + uint64(k))}.strategy()
		s, err := parse.Strategy(source)
		if no, _ := parse.Wrong(err); no == api.ErrLexLong {
			continue
		} else if err != nil {
			t.Fatalf("%q: %v", source, err)
		}
		x, err := lower.Strategy(s)
		if no, _ := parse.Wrong(err); no == api.ErrCostMuch {
			continue
		} else if err != nil {
			t.Fatalf("%q: %v", source, err)
		}
		costs, err := cost.States(s)
		if err != nil {
			t.Fatalf("%q: %v", source, err)
		}
		all = append(all, text{s, x, costs})
	}
	if len(all) < count/2 {
		t.Fatalf("only %d of %d texts are taken", len(all), count)
	}
	return all
}

// byText is what a text does, from scratch, each turn anew.
type byText struct {
	s      api.Strategy
	m      api.Mode
	w      api.Snap
	status api.Status
	code   api.Errno
}

func (b *byText) start(t *testing.T) {
	t.Helper()
	m, no := mean.Start(b.s)
	if no != api.OK {
		t.Fatal(no)
	}
	b.m, b.status, b.code = m, api.Running, api.OK
}

func (b *byText) fold(batch []api.Feed) {
	w, _, no := snap.Fold(b.w, batch...)
	if no != api.OK {
		b.status, b.code = api.Faulted, no
		return
	}
	b.w = w
}

func (b *byText) turn(t *testing.T, batch []api.Feed, granted bool) api.Firing {
	t.Helper()
	if b.status == api.Running {
		b.fold(batch)
	}
	if b.status != api.Running {
		return api.Firing{Rule: -1, Status: b.status, Code: b.code}
	}
	f, next, no := mean.Turn(b.s, b.m, b.w, granted)
	if no != api.OK {
		t.Fatal(no)
	}
	b.m, b.status, b.code = next, f.Status, f.Code
	return f
}

// THE TABLE IS THE TEXT, kept up: from the beginning on, whatever batches come, in turns and between them, and whatever is granted, through halts, faults and further starts.
func TestTheTableIsTheText(t *testing.T) {
	reached := map[string]int{}
	spared := 0
	for k, y := range texts(t, 4000000, 2500) {
		d := drawer{below: draw(uint64(4500000 + k))}
		w := d.seenSome()
		b := &byText{s: y.s, w: w}
		r := made(t, y.x, w)
		for range 30 {
			if b.status != api.Running && d.below(4) > 0 {
				r.Start()
				b.start(t)
			}
			if b.status == api.Running && d.below(4) == 0 {
				batch := d.batch(b.w, 300)
				r.Fold(batch...)
				b.fold(batch)
			}
			batch, granted := d.batch(b.w, 300), d.below(4) > 0
			runs, state := b.status == api.Running, r.Mode().State
			f, want := r.turn(granted, batch...), b.turn(t, batch, granted)
			steps := f.Steps
			f.Steps = 0
			status, code := r.Status()
			if !sameFiring(f, want) || !sameMode(r.Mode(), b.m) && b.status != api.Stopped || status != b.status || code != b.code || r.Snap() != b.w {
				t.Fatalf("%s: %+v, %+v; by its text %+v, %+v", short(y.s), f, r.standing(), want, *b)
			}
			if most := y.costs[state]; steps > most.Steps || len(f.Actions) > most.Acts {
				t.Errorf("%s: %d steps, %d actions; its cost is %v", short(y.s), steps, len(f.Actions), most)
			}
			if runs {
				reached[outcome(f, api.OK)]++
			}
			if runs && steps == 0 {
				spared++
			}
		}
	}
	expectReached(t, reached, 200, "nothing", "fires", "fires actions", "halts", "halts actions", "refused", "faults 10", "faults 11", "faults 170", "faults 100")
	if spared < 1000 {
		t.Errorf("only %d turns were without a step", spared)
	}
}

// expectCoherent tells whether what is known of each guard is what it comes to, and answers of how many something is.
func expectCoherent(t *testing.T, r *runner, x api.Table) int {
	t.Helper()
	count := 0
	m, w := r.Mode(), r.Snap()
	for s, l := range r.Caches() {
		for g, c := range l {
			if c == (api.Cached{}) {
				continue
			}
			count++
			is, _, no := machine.Value(x, x.States[s][g].When, m, w)
			if !c.Clean || c.Value != is || c.Code != no {
				t.Fatalf("%s: of guard %d of state %d %+v is known in %v with %v; it comes to %d, %d", short(x), g, s, c, m, w, is, no)
			}
		}
	}
	return count
}

// drawnRuns runs many drawn tables, and tables of texts, through drawn calls, and lets each be looked at: ahead of a turn, and behind it.
func drawnRuns(t *testing.T, from uint64, count int, look func(r *runner, x api.Table, batch []api.Feed, granted bool)) {
	t.Helper()
	all := drawnTables(from, count)
	for _, y := range texts(t, from+500000, count/4) {
		all = append(all, y.x)
	}
	for k, x := range all {
		if table.Check(x) != api.OK {
			continue
		}
		d := drawer{below: draw(from + 900000 + uint64(k))}
		r := started(t, x, d.seenSome())
		for range 20 {
			switch status, _ := r.Status(); {
			case status != api.Running || d.below(30) == 0:
				r.Start()
			case d.below(4) == 0:
				r.Fold(d.batch(r.Snap(), 300)...)
			}
			look(r, x, d.batch(r.Snap(), 300), d.below(3) > 0)
		}
	}
}

// COHERENT: behind each call.
func TestCoherent(t *testing.T) {
	known, others := 0, 0
	drawnRuns(t, 5000000, 4000, func(r *runner, x api.Table, batch []api.Feed, granted bool) {
		known += expectCoherent(t, r, x)
		r.turn(granted, batch...)
		n := expectCoherent(t, r, x)
		known += n
		if n > len(x.States[r.Mode().State]) {
			others++
		}
		if status, _ := r.Status(); status == api.Running && len(batch) == 3 {
			r.Stop()
			known += expectCoherent(t, r, x)
			r.Start()
			if n := expectCoherent(t, r, x); n > 0 {
				t.Errorf("%d are known behind Start", n)
			}
		}
	})
	if known < 50000 || others < 300 {
		t.Errorf("%d were known; %d times more than the state at hand has", known, others)
	}
}

// A Turn is machine's Turn, from scratch, but makes at most as many steps, and so at most as many as table says; less, if something is known.
func TestNoMoreThanFromScratch(t *testing.T) {
	less, same := 0, 0
	drawnRuns(t, 6000000, 4000, func(r *runner, x api.Table, batch []api.Feed, granted bool) {
		m := r.Mode()
		status, _ := r.Status()
		w, _, no := snap.Fold(r.Snap(), batch...)
		f := r.turn(granted, batch...)
		if status != api.Running || no != api.OK {
			if f.Steps != 0 {
				t.Errorf("%+v", f)
			}
			return
		}
		want, next, _ := machine.Turn(x, m, w, granted)
		steps := want.Steps
		want.Steps = f.Steps
		most, _ := table.Bound(x)
		if !sameFiring(f, want) || !sameMode(r.Mode(), next) || f.Steps > steps || f.Steps < 0 || f.Steps > most.Steps || len(f.Actions) > most.Acts {
			t.Fatalf("%s: %+v, %v; from scratch %+v, %v, %d steps", short(x), f, r.Mode(), want, next, steps)
		}
		if f.Steps < steps {
			less++
		} else {
			same++
		}
	})
	if less < 5000 || same < 5000 {
		t.Errorf("%d times less steps, %d times as many", less, same)
	}
}

// A Turn of an empty batch, right behind one that fired nothing, makes no step, and tells the same.
func TestNothingTwice(t *testing.T) {
	reached := 0
	drawnRuns(t, 7000000, 3000, func(r *runner, x api.Table, batch []api.Feed, granted bool) {
		f := r.turn(granted, batch...)
		if f.Rule >= 0 {
			return
		}
		was := r.standing()
		f.Steps = 0
		expectTurn(t, r, true, f)
		expectTurn(t, r, false, f, []api.Feed{}...)
		expectStanding(t, r, was)
		reached++
	})
	if reached < 5000 {
		t.Errorf("only %d were nothing", reached)
	}
}

// Fold, and then Turn, of two batches, is Turn of both, if none is refused: what fires, what it lets out, the mode, the stand, the snapshot, what is known; and if no field comes back that the first batch has changed, also the steps.
func TestFoldAndThenTurn(t *testing.T) {
	reached, back := 0, 0
	for k, x := range drawnTables(8000000, 4000) {
		if table.Check(x) != api.OK {
			continue
		}
		d := drawer{below: draw(uint64(8500000 + k))}
		w := d.seenSome()
		apart, whole := started(t, x, w), started(t, x, w)
		for range 15 {
			first := d.batch(whole.Snap(), 0)
			between, changed, _ := snap.Fold(whole.Snap(), first...)
			second := d.batch(between, 0)
			_, more, _ := snap.Fold(between, second...)
			both := slices.Concat(first, second)
			_, all, _ := snap.Fold(whole.Snap(), both...)
			expectFold(t, apart, api.OK, first...)
			granted := d.below(3) > 0
			f, want := apart.turn(granted, second...), whole.turn(granted, both...)
			reached++
			if changed|more != all {
				back++
				if f.Steps < want.Steps {
					t.Errorf("%s: %+v; of both at once %+v", short(x), f, want)
				}
				f.Steps = want.Steps
			}
			if !sameFiring(f, want) || !slices.Equal(apart.asked, whole.asked) {
				t.Fatalf("%s: %+v; of both at once %+v", short(x), f, want)
			}
			is, other := apart.standing(), whole.standing()
			is.steps = other.steps
			if changed|more != all {
				is.known = other.known
			}
			if !is.same(other) {
				t.Fatalf("%s: %+v; of both at once %+v", short(x), is, other)
			}
			if f.Status != api.Running {
				apart.Start()
				whole.Start()
			}
		}
	}
	if reached < 20000 || back < 1000 {
		t.Errorf("%d turns, %d of which had a field come back", reached, back)
	}
}

// If one of two batches is refused, so are both at once.
func TestFoldAndThenTurnRefused(t *testing.T) {
	for _, bad := range badBatches() {
		for _, l := range [][2][]api.Feed{{bad, {bid(4)}}, {{ask(4)}, bad}} {
			r := started(t, standsTable(), seen())
			r.Fold(l[0]...)
			expectTurn(t, r, true, faults(0, snapRange), l[1]...)
			r = started(t, standsTable(), seen())
			expectTurn(t, r, true, faults(0, snapRange), slices.Concat(l[0], l[1])...)
		}
	}
}

// grant is asked only if something is let out, of as much as that is, once; what it does not grant changes nothing but what is known (and how many steps were made): the next Turn, granted, is what it would have been.
func TestWhatIsNotGrantedChangesNothing(t *testing.T) {
	refused, asked := 0, 0
	drawnRuns(t, 9000000, 3000, func(r *runner, x api.Table, batch []api.Feed, granted bool) {
		if r.Fold(batch...) != api.OK {
			return
		}
		was := r.standing()
		want, next, _ := machine.Turn(x, was.mode, was.snap, true)
		f := r.turn(false)
		if len(want.Actions) == 0 {
			if len(r.asked) > 0 || f.Refused {
				t.Fatalf("%s: %+v, and grant was asked of %v", short(x), f, r.asked)
			}
			return
		}
		refused++
		if !slices.Equal(r.asked, []int{len(want.Actions)}) || !f.Refused || f.Rule != want.Rule || len(f.Actions) > 0 || f.Status != api.Running || f.Code != api.OK {
			t.Fatalf("%s: %+v, and grant was asked of %v; want %+v", short(x), f, r.asked, want)
		}
		is := r.standing()
		is.known, is.steps = was.known, was.steps
		if !is.same(was) {
			t.Fatalf("%s: %+v; ahead of it %+v", short(x), is, was)
		}
		if !granted {
			return
		}
		f = r.turn(true)
		asked++
		want.Steps = f.Steps
		if !sameFiring(f, want) || !sameMode(r.Mode(), next) || !slices.Equal(r.asked, []int{len(want.Actions)}) {
			t.Fatalf("%s: %+v, %v; want %+v, %v", short(x), f, r.Mode(), want, next)
		}
	})
	if refused < 3000 || asked < 1000 {
		t.Errorf("%d were refused, %d granted then", refused, asked)
	}
}

// Tables that went through bytes run as they did.
func TestTablesOutOfBytes(t *testing.T) {
	for k, x := range drawnTables(9900000, 400) {
		b, no := table.Encode(x)
		if no != api.OK {
			continue
		}
		y, no := table.Decode(b)
		if no != api.OK {
			t.Fatal(no)
		}
		d := drawer{below: draw(uint64(k))}
		w := d.seenSome()
		r, o := started(t, x, w), started(t, y, w)
		for range 6 {
			batch := d.batch(r.Snap(), 0)
			expectTurn(t, o, true, r.turn(true, batch...), batch...)
			expectStanding(t, o, r.standing())
		}
	}
}
