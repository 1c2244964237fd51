package eval_test

import (
	"slices"
	"testing"

	"tripwire/api"
	"tripwire/eval"
	"tripwire/machine"
	"tripwire/snap"
	"tripwire/table"
)

// model is an evaluator by the chapter's words: what is known stands in lists, and turns are machine's, from scratch, of whose steps those are taken off that guards would make of which something is known.
type model struct {
	x      api.Table
	w      api.Snap
	m      api.Mode
	status api.Status
	code   api.Errno
	known  [][]api.Cached
	steps  int
}

func modelNew(x api.Table, w api.Snap) (*model, api.Errno) {
	no := table.Check(x)
	if no == api.OK {
		no = snap.Check(w)
	}
	if no != api.OK {
		return nil, no
	}
	o := &model{x: x, w: w}
	o.begin()
	return o, api.OK
}

func (o *model) begin() {
	o.m = mode(0, o.x.Regs...)
	o.known = nil
	for _, guards := range o.x.States {
		o.known = append(o.known, make([]api.Cached, len(guards)))
	}
}

func (o *model) start() {
	o.begin()
	o.status, o.code = api.Running, api.OK
}

func (o *model) stop() {
	if o.status == api.Running {
		o.status = api.Stopped
	}
}

// forget takes away what is known of guards of which this is told.
func (o *model) forget(is func(fields api.Mask, regs uint16) bool) {
	for s, guards := range o.x.States {
		for g, x := range guards {
			if is(table.Reads(o.x, x.When)) {
				o.known[s][g] = api.Cached{}
			}
		}
	}
}

func (o *model) fold(batch []api.Feed) api.Errno {
	if o.status != api.Running {
		return ended
	}
	w := o.w
	for _, f := range batch {
		next, _, no := snap.Fold(w, f)
		if no != api.OK {
			o.status, o.code = api.Faulted, snapRange
			return snapRange
		}
		w = next
	}
	o.forget(func(fields api.Mask, _ uint16) bool {
		for f := api.FieldBid; f <= api.FieldOpen; f++ {
			if fields&(1<<f) != 0 && snap.Get(w, f) != snap.Get(o.w, f) {
				return true
			}
		}
		return false
	})
	o.w = w
	return api.OK
}

// turn is a firing, and what grant is asked.
func (o *model) turn(batch []api.Feed, granted bool) (api.Firing, []int) {
	if o.fold(batch) != api.OK {
		return api.Firing{Rule: -1, Status: o.status, Code: o.code}, nil
	}
	f, next, _ := machine.Turn(o.x, o.m, o.w, true)
	var asked []int
	if n := len(f.Actions); n > 0 {
		asked = []int{n}
		f, next, _ = machine.Turn(o.x, o.m, o.w, granted)
	}
	f.Steps -= o.spared()
	o.steps += f.Steps
	o.status, o.code = f.Status, f.Code
	o.forget(func(_ api.Mask, regs uint16) bool {
		for r := range o.m.Regs {
			if regs&(1<<r) != 0 && o.m.Regs[r] != next.Regs[r] {
				return true
			}
		}
		return false
	})
	o.m = next
	return f, asked
}

// spared is how many steps are not made of the guards that are come to, all of which are known then.
func (o *model) spared() int {
	sum := 0
	for g, x := range o.x.States[o.m.State] {
		is, steps, no := machine.Value(o.x, x.When, o.m, o.w)
		c := &o.known[o.m.State][g]
		if c.Clean {
			sum += steps
		}
		*c = api.Cached{Clean: true, Value: is, Code: no}
		if is != 0 || no != api.OK {
			break
		}
	}
	return sum
}

// pair is an evaluator beside its model.
type pair struct {
	*runner
	model *model
}

// newPair is both, or nothing, if the table or the snapshot may not be.
func newPair(t *testing.T, x api.Table, w api.Snap) (*pair, api.Errno) {
	t.Helper()
	e, no := eval.New(x, w)
	o, want := modelNew(x, w)
	if no != want || (e == nil) != (o == nil) {
		t.Fatalf("New(%s, %v) is %v, %d; want %d", short(x), w, e, no, want)
	}
	if o == nil {
		return nil, no
	}
	return &pair{&runner{Eval: e}, o}, api.OK
}

func (p *pair) start() {
	p.Start()
	p.model.start()
}

func (p *pair) stop() {
	p.Stop()
	p.model.stop()
}

// expectAlike tells whether an evaluator tells what its model does.
func (p *pair) expectAlike(t *testing.T) {
	t.Helper()
	o := p.model
	status, code := p.Status()
	same := func(a, b []api.Cached) bool { return slices.Equal(a, b) }
	if !sameMode(p.Mode(), o.m) || status != o.status || code != o.code || p.Snap() != o.w || p.Steps() != o.steps || !slices.EqualFunc(p.Caches(), o.known, same) {
		t.Fatalf("%s is %+v; want %v, %d, %d, %v, %v, %d", short(o.x), p.standing(), o.m, o.status, o.code, o.w, o.known, o.steps)
	}
}

// expectFold folds both.
func (p *pair) expectFold(t *testing.T, batch []api.Feed) api.Errno {
	t.Helper()
	no, want := p.Fold(batch...), p.model.fold(batch)
	if no != want {
		t.Fatalf("%s: Fold(%v) is %d; want %d", short(p.model.x), batch, no, want)
	}
	p.expectAlike(t)
	return no
}

// expectTurn turns both.
func (p *pair) expectTurn(t *testing.T, granted bool, batch []api.Feed) api.Firing {
	t.Helper()
	f := p.turn(granted, batch...)
	want, asked := p.model.turn(batch, granted)
	if !sameFiring(f, want) || !slices.Equal(p.asked, asked) {
		t.Fatalf("%s: Turn(%v, %t) is %+v, asked %v; want %+v, %v", short(p.model.x), batch, granted, f, p.asked, want, asked)
	}
	p.expectAlike(t)
	return f
}
