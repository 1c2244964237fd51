package audit_test

import (
	"reflect"
	"testing"

	"tripwire/api"
)

// allOps are those that there are, and some that there are not.
func allOps() []api.Op { return []api.Op{0, 1, 2, 3, 4, 5, 6, 7, 8, 9, 10, 11, 12, 77, 255} }

// A refusal of whatever command says nothing beside, and changes nothing: nothing else of it is asked.
func TestRefusals(t *testing.T) {
	for _, op := range allOps() {
		j := staged(t)
		ahead := seen(j)
		for _, client := range append(nobody(3), 1, 2, 3) {
			for _, why := range []api.Errno{least, -1, 1, 220, 245, greatest} {
				c := api.Command{Op: op, Client: client, ID: 1, Time: -1, Entry: api.Entry{Side: 7, Qty: -1}}
				expectSeen(t, j, step{c, api.Reply{Err: why}})
				if op == api.OpUpload {
					expectSeen(t, j, step{c, api.Reply{Err: why, At: 5}}, step{c, api.Reply{Err: why, At: -1}}, step{c, api.Reply{Err: why, At: greatest}})
				}
			}
		}
		if behind := seen(j); !same(ahead, behind) {
			t.Errorf("refusals of %d changed %+v to %+v", op, ahead, behind)
		}
		expectSeen(t, j, ticked(sceneTop(), fired(1), accepted(7, 1, api.Buy, 1, 1), dropped(7, 1, api.Buy, 1, 1), fired(4)))
	}
}

// beside are replies that have one thing beside what they have, of all that a reply can have; by its name.
func beside(r api.Reply) map[string]api.Reply {
	all := map[string]api.Reply{}
	add := func(name string, turn func(r *api.Reply)) {
		x := copied(r)
		turn(&x)
		all[name] = x
	}
	add("At", func(r *api.Reply) { r.At = 1 })
	add("At below 0", func(r *api.Reply) { r.At = -1 })
	add("ID", func(r *api.Reply) { r.ID = 1 })
	add("ID below 0", func(r *api.Reply) { r.ID = -1 })
	add("Told", func(r *api.Reply) { r.Told = told(fired(1)) })
	add("Told of noughts", func(r *api.Reply) { r.Told = []api.Told{{}} })
	add("Rounds", func(r *api.Reply) { r.Rounds = 1 })
	add("Rounds below 0", func(r *api.Reply) { r.Rounds = -1 })
	add("Steps", func(r *api.Reply) { r.Steps = 1 })
	add("Steps below 0", func(r *api.Reply) { r.Steps = -1 })
	add("Orders", func(r *api.Reply) { r.Orders = sceneOrders() })
	add("Orders of noughts", func(r *api.Reply) { r.Orders = []api.Order{{}} })
	for k := range reflect.TypeFor[api.Top]().NumField() {
		add("Top."+reflect.TypeFor[api.Top]().Field(k).Name, func(r *api.Reply) { reflect.ValueOf(&r.Top).Elem().Field(k).SetInt(1) })
	}
	for k := range reflect.TypeFor[api.Usage]().NumField() {
		add("Usage."+reflect.TypeFor[api.Usage]().Field(k).Name, func(r *api.Reply) { reflect.ValueOf(&r.Usage).Elem().Field(k).SetInt(1) })
	}
	add("Stand.ID", func(r *api.Reply) { r.Stand.ID = 1 })
	add("Stand.Client", func(r *api.Reply) { r.Stand.Client = 1 })
	add("Stand.Status", func(r *api.Reply) { r.Stand.Status = api.Running })
	add("Stand.Code", func(r *api.Reply) { r.Stand.Code = 1 })
	add("Stand.State", func(r *api.Reply) { r.Stand.State = 1 })
	add("Stand.Regs", func(r *api.Reply) { r.Stand.Regs = []int64{0} })
	add("Stand.Slots", func(r *api.Reply) { r.Stand.Slots = []int{0} })
	for k := range reflect.TypeFor[api.Snap]().NumField() {
		add("Stand.Snap."+reflect.TypeFor[api.Snap]().Field(k).Name, func(r *api.Reply) { reflect.ValueOf(&r.Stand.Snap).Elem().Field(k).SetInt(1) })
	}
	return all
}

// A refusal with each other field of the reply set, alone, and of an OpUpload with At, too.
func TestRefusalsThatSayMore(t *testing.T) {
	for _, op := range allOps() {
		c := api.Command{Op: op, Client: 1, ID: 1}
		for name, r := range beside(api.Reply{Err: api.ErrVenueOp}) {
			if op == api.OpUpload && (name == "At" || name == "At below 0") {
				expectSeen(t, staged(t), step{c, r})
				continue
			}
			j := staged(t)
			expectWrong(t, j, step{c, r}, badReply, 0)
		}
	}
	for name, r := range beside(api.Reply{Err: api.ErrParseToken, At: 8}) {
		if name != "At" && name != "At below 0" {
			expectWrong(t, staged(t), step{upload(1, "strategy"), r}, badReply, 0)
		}
	}
}

// A list that is empty is as good as none (R6).
func TestEmptyLists(t *testing.T) {
	empty := func(r api.Reply) api.Reply {
		if len(r.Told) == 0 {
			r.Told = []api.Told{}
		}
		if len(r.Orders) == 0 {
			r.Orders = make([]api.Order, 0, 3)
		}
		if len(r.Stand.Regs) == 0 {
			r.Stand.Regs = []int64{}
		}
		if len(r.Stand.Slots) == 0 {
			r.Stand.Slots = []int{}
		}
		return r
	}
	j := made(t, plain())
	for _, s := range append([]step{{book(), api.Reply{}}, {tick(0), api.Reply{Err: 1}}}, scene()...) {
		expectSeen(t, j, step{s.c, empty(s.r)})
	}
	expectSeen(t, j, step{quota(2), empty(api.Reply{Top: sceneTop(), Usage: j.Usage(2)})})
}
