package audit_test

import (
	"reflect"
	"slices"
	"testing"

	"tripwire/api"
	"tripwire/audit"
)

// leaves are the numbers of a thing, wherever in it they stand.
func leaves(v reflect.Value) []reflect.Value {
	var l []reflect.Value
	switch {
	case v.Kind() == reflect.Struct:
		for k := range v.NumField() {
			l = append(l, leaves(v.Field(k))...)
		}
	case v.Kind() == reflect.Slice:
		for k := range v.Len() {
			l = append(l, leaves(v.Index(k))...)
		}
	case v.CanInt() || v.CanUint():
		l = append(l, v)
	}
	return l
}

// slipped is a step with something in it that may be wrong.
func (d *drawer) slipped(s step) step {
	return s.turned(func(s *step) {
		for range d.number(1, 1, 1, 2) {
			d.slip(s)
		}
	})
}

func (d *drawer) slip(s *step) {
	switch d.below(8) {
	case 0:
		l := leaves(reflect.ValueOf(&s.c).Elem())
		d.slipNumber(l[d.below(len(l))])
	case 1:
		d.slipTold(&s.r)
	case 2:
		if len(s.r.Orders) > 0 {
			at := d.below(len(s.r.Orders))
			s.r.Orders = slices.Delete(s.r.Orders, at, at+1)
		}
	case 3:
		// What is told is most of it, and so would be most of what slips.
		r := *s
		r.r.Told, r.r.Orders = nil, nil
		r.slipAnywhere(d)
		r.r.Told, r.r.Orders = s.r.Told, s.r.Orders
		*s = r
	default:
		s.slipAnywhere(d)
	}
}

func (s *step) slipAnywhere(d *drawer) {
	l := leaves(reflect.ValueOf(&s.r).Elem())
	d.slipNumber(l[d.below(len(l))])
}

func (d *drawer) slipNumber(v reflect.Value) {
	if v.CanUint() {
		v.SetUint(uint64(d.number(0, 1, 2, 3, 4, 5, 6, 7, 8, 9, 255)))
		return
	}
	is := int(v.Int())
	v.SetInt(int64(d.number(0, 1, -1, is+1, is-1, is+2, is-2, -is, 2, 3, d.below(20), least, greatest)))
}

// slipTold takes a thing out, lays one in, or lets two change their places.
func (d *drawer) slipTold(r *api.Reply) {
	n := len(r.Told)
	if n == 0 || d.below(6) == 0 {
		r.Told = append(r.Told, d.thing())
		return
	}
	at := d.below(n)
	switch d.below(5) {
	case 0:
		r.Told = slices.Delete(r.Told, at, at+1)
	case 1:
		r.Told = r.Told[:at]
	case 2:
		r.Told = slices.Insert(r.Told, at, d.thing())
	case 3:
		r.Told = slices.Insert(r.Told, at, r.Told[d.below(n)])
	case 4:
		r.Told[at], r.Told[n-1] = r.Told[n-1], r.Told[at]
	}
}

// thing is one that something may have told.
func (d *drawer) thing() api.Told {
	strategy := d.below(6)
	return []api.Told{fired(strategy), refused(strategy), reject(strategy), halted(strategy), faulted(strategy), cutoff(), happened(withdrawn(d.below(9), 1, sells, 8, 2)), happened(accepted(d.below(9), 1, sells, 8, 2))}[d.below(8)]
}

// expectAlike tells whether a judge says of a step what its model does, and has what that has.
func expectAlike(t *testing.T, j *audit.Judge, m *model, s step) (api.Errno, int) {
	t.Helper()
	e, at := j.Sees(s.c, s.r)
	if want, place := m.sees(s.c, s.r); e != want || at != place {
		t.Fatalf("%+v\n%+v\n%+v: %d at %d; want %d at %d", m.c, s.c, s.r, e, at, want, place)
	}
	if is, want := seen(j), m.seen(); !same(is, want) {
		t.Fatalf("%+v\n%+v\n%+v: it has %+v; want %+v", m.c, s.c, s.r, is, want)
	}
	return e, at
}

// tighter is the config with one number less, mostly, than the venue had whose replies are seen.
func (d *drawer) tighter() api.Config {
	c := d.c
	switch d.below(16) {
	case 0:
		c.Acts = d.below(12)
	case 1:
		c.IDs = d.below(20)
	case 2:
		c.Volume = int64(d.below(30))
	case 3:
		c.Open = d.below(4)
	case 4:
		c.Orders = d.below(8)
	case 5:
		c.Levels = d.below(4)
	case 6:
		c.Strats = d.below(3)
	case 7:
		c.Rounds = d.below(3)
	case 8:
		c.Rules.Clients = 1 + d.below(2)
	case 9:
		c.Window = int64(1 + d.below(5))
	case 10:
		d.belowNought(&c)
	}
	return c
}

// belowNought lets a quota be below 0.
func (d *drawer) belowNought(c *api.Config) {
	n := d.number(-1, -1, -2, least)
	switch d.below(9) {
	case 0, 1, 2:
		c.Volume = int64(n)
	case 3:
		c.Orders = n
	case 4:
		c.Levels = n
	case 5:
		c.Open = n
	case 6:
		c.IDs = n
	case 7:
		c.Acts = n
	case 8:
		c.Strats = n
	}
}

// A venue's replies, and some that slipped, against the model; half of them as the judge of a lesser venue.
func TestSlips(t *testing.T) {
	reached := map[api.Errno]int{}
	slips, taken := 0, 0
	for seed := range uint64(4000) {
		d := long(seed)
		if seed%4 == 0 {
			d = drawn(seed)
		}
		c := d.tighter()
		j, m := made(t, c), &model{c: c}
		all := d.script(t, 1+d.below(60))
		behind := 1 + d.below(12)
		for k, s := range all {
			slip := k >= len(all)-behind && d.below(3) == 0
			if slip {
				s = d.slipped(s)
				slips++
			}
			e, _ := expectAlike(t, j, m, s)
			reached[e]++
			if slip && e == ok {
				taken++
			}
			if e != ok && d.below(3) > 0 {
				break
			}
		}
	}
	expectReached(t, reached, 100, ok, badReply, badEvent, badTold, badQuota, badTop)
	expectReached(t, reached, 30, badDump)
	if slips < 3000 || taken < 300 {
		t.Errorf("%d slips, %d of them taken", slips, taken)
	}
}

// Every number of a reply, and of its command, in turn, as another one: behind drawn scripts, against the model.
func TestEverySlip(t *testing.T) {
	reached := map[api.Errno]int{}
	for seed := range uint64(60) {
		d := long(seed + 50000)
		all := d.script(t, 30)
		last := len(all) - 1
		for last > 10 && len(all[last].r.Told) < 6 {
			last--
		}
		ahead := &model{c: d.c}
		for _, s := range all[:last] {
			ahead.sees(s.c, s.r)
		}
		n := len(leaves(reflect.ValueOf(all[last])))
		for k := range n {
			for range 2 {
				s := all[last].turned(func(s *step) {
					d.slipNumber(append(leaves(reflect.ValueOf(&s.c).Elem()), leaves(reflect.ValueOf(&s.r).Elem())...)[k])
				})
				j, m := made(t, d.c), *ahead
				for _, s := range all[:last] {
					j.Sees(s.c, s.r)
				}
				e, _ := expectAlike(t, j, &m, s)
				reached[e]++
			}
		}
	}
	expectReached(t, reached, 100, ok, badReply, badEvent, badTold, badTop)
}
