package mean

import "tripwire/api"

// noRule is told where none fires.
const noRule = -1

// turn is what a rule has done so far; it is the mode's, or nobody's, when all of it has been reckoned.
type turn struct {
	sight
	slots   map[string]int // their places, by their names
	states  map[string]int // likewise
	state   int
	actions []api.Action
	status  api.Status
}

// begin is a turn in which nothing has been done.
func begin(s api.Strategy, m api.Mode, w api.Snap) *turn {
	return &turn{
		sight:  look(s, m, w),
		slots:  placesOf(s.Slots, func(x api.Slot) string { return x.Name }),
		states: placesOf(s.States, func(x api.State) string { return x.Name }),
		state:  m.State,
		status: api.Running,
	}
}

// fire does what the first rule does whose guard holds, and tells which one that is.
func (t *turn) fire(rules []api.Rule) int {
	which := noRule
eachRule:
	for i, r := range rules {
		switch t.value(r.When) {
		case isTrue:
			t.doAll(r.Dos)
			which = i
			break eachRule
		}
	}
	return which
}

func (t *turn) doAll(dos []api.Do) {
	// What each kind of thing does.
	deeds := [...]func(t *turn, d api.Do){
		api.DoSubmit: (*turn).submit,
		api.DoAmend:  (*turn).amend,
		api.DoCancel: (*turn).cancel,
		api.DoSet:    (*turn).set,
		api.DoGoto:   (*turn).goOn,
		api.DoHalt:   (*turn).halt,
	}
	for _, d := range dos {
		deeds[d.Kind](t, d)
	}
}

func (t *turn) submit(d api.Do) {
	a := api.Action{Act: api.ActSubmit, Kind: d.Order, Slot: t.slot(d.Name)}
	a.Side = api.Side(t.value(d.Side))
	a.Qty = t.value(d.Qty)
	if d.Order != api.Market {
		a.Price = t.value(d.Price)
	}
	t.actions = append(t.actions, a)
}

func (t *turn) amend(d api.Do) {
	a := api.Action{Act: api.ActAmend, Slot: t.slot(d.Name)}
	a.Qty = t.value(d.Qty)
	a.Price = t.value(d.Price)
	t.actions = append(t.actions, a)
}

func (t *turn) cancel(d api.Do) {
	t.actions = append(t.actions, api.Action{Act: api.ActCancel, Slot: t.slot(d.Name)})
}

// slot is a slot's number, from 1 on; a submit without one has 0.
func (t *turn) slot(name string) int {
	if name == "" {
		return 0
	}
	return t.slots[name] + 1
}

func (t *turn) set(d api.Do) { t.regs[t.places[d.Name]] = t.value(d.Value) }

func (t *turn) goOn(d api.Do) { t.state = t.states[d.Name] }

func (t *turn) halt(api.Do) { t.status = api.Halted }
