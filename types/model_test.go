package types_test

import (
	"reflect"
	"testing"

	"tripwire/api"
	"tripwire/tree"
	"tripwire/types"
)

// A model: it finds all that is wrong, in the order in which the chapter names it, and tells the first; types are looked up in the table.

type verdict struct {
	no    api.Errno
	place int
	below bool
}

func (v verdict) failure(call string) error {
	var err error = v.no
	if v.below {
		err = ofFailure(v.place, v.no)
	}
	return &api.Failure{Call: call, At: v.place, Err: err}
}

// modelType is the type of an expression that may be, if it has one, and what is wrong in it.
func modelType(regs []api.Reg, n api.Node) (to api.Type, is bool, wrong []verdict) {
	var kids []api.Type
	for _, kid := range n.Kids {
		t, is, w := modelType(regs, kid)
		wrong = append(wrong, w...)
		if is {
			kids = append(kids, t)
		}
	}
	if len(kids) < len(n.Kids) {
		return 0, false, wrong
	}
	if n.Kind == api.NodeReg {
		for _, r := range regs {
			if r.Name == n.Name {
				return r.Type, true, wrong
			}
		}
		return 0, false, append(wrong, verdict{no: none, place: n.At})
	}
	to, is = looked(n, kids)
	if !is {
		wrong = append(wrong, verdict{no: fit, place: n.At})
	}
	return to, is, wrong
}

// looked is what the table says of a node with kids of these types.
func looked(n api.Node, kids []api.Type) (api.Type, bool) {
	switch n.Kind {
	case api.NodeLit:
		return n.Type, true
	case api.NodeField:
		return []api.Type{0, tPrice, tPrice, tPrice, tQty, tTime, tQty}[n.Field], true
	case api.NodeHas:
		return tBool, true
	case api.NodeCond:
		return kids[1], kids[0] == tBool && kids[1] == kids[2]
	case api.NodeConv:
		return n.Type, kids[0] != 0 && kids[0] < tBool
	}
	for _, r := range rowsOfOne()[n.Oper] {
		if r.kid == kids[0] {
			return r.is, true
		}
	}
	for _, r := range rowsOfTwo()[n.Oper] {
		if r.first == kids[0] && r.second == kids[1] {
			return r.is, true
		}
	}
	return 0, false
}

func modelOf(s api.Strategy, n api.Node) (api.Type, error) {
	if no := tree.CheckExpr(n); no != api.OK {
		return 0, verdict{no: no}.failure("Of")
	}
	to, _, wrong := modelType(s.Regs, n)
	if wrong != nil {
		return 0, wrong[0].failure("Of")
	}
	return to, nil
}

// modelWrong is all that Check finds wrong with a strategy that may be.
func modelWrong(s api.Strategy) []verdict {
	var all []verdict
	say := func(is bool, no api.Errno, place int) {
		if is {
			all = append(all, verdict{no: no, place: place})
		}
	}
	names := func(count int, name func(k int) string) (seen []string) {
		for k := range count {
			seen = append(seen, name(k))
		}
		return seen
	}
	regs := names(len(s.Regs), func(k int) string { return s.Regs[k].Name })
	slots := names(len(s.Slots), func(k int) string { return s.Slots[k].Name })
	states := names(len(s.States), func(k int) string { return s.States[k].Name })
	for k, r := range s.Regs {
		say(among(regs[:k], r.Name), twice, r.At)
		is, _, _ := modelType(nil, r.Init)
		say(is != r.Type, fit, r.At)
	}
	for k, x := range s.Slots {
		say(among(slots[:k], x.Name), twice, x.At)
	}
	for k, x := range s.States {
		say(among(states[:k], x.Name), twice, x.At)
	}
	part := func(n api.Node, must api.Type) {
		to, is, wrong := modelType(s.Regs, n)
		for _, v := range wrong {
			v.below = true
			all = append(all, v)
		}
		say(is && to != must, fit, n.At)
	}
	for _, x := range s.States {
		for _, r := range x.Rules {
			part(r.When, tBool)
			for k, d := range r.Dos {
				for _, before := range r.Dos[:k] {
					say(before.Kind >= api.DoGoto, last, d.At)
				}
				lists := map[api.DoKind][]string{api.DoSubmit: slots, api.DoAmend: slots, api.DoCancel: slots, api.DoSet: regs, api.DoGoto: states}
				say(d.Name != "" && !among(lists[d.Kind], d.Name), none, d.At)
				for _, p := range []struct {
					n    api.Node
					must api.Type
				}{{d.Side, tSide}, {d.Qty, tQty}, {d.Price, tPrice}, {d.Value, typeOfReg(s, d.Name)}} {
					if p.n.Kind != 0 {
						part(p.n, p.must)
					}
				}
			}
		}
	}
	return all
}

func among(all []string, name string) bool {
	for _, x := range all {
		if x == name {
			return true
		}
	}
	return false
}

func typeOfReg(s api.Strategy, name string) api.Type {
	for _, r := range s.Regs {
		if r.Name == name {
			return r.Type
		}
	}
	return 0
}

func modelCheck(s api.Strategy) error {
	if no := tree.Check(s); no != api.OK {
		return verdict{no: no}.failure("Check")
	}
	if wrong := modelWrong(s); wrong != nil {
		return wrong[0].failure("Check")
	}
	return nil
}

// expectOfAsModel and expectCheckAsModel tell whether Of and Check say what the model says, and answer it.
func expectOfAsModel(t *testing.T, s api.Strategy, n api.Node) (api.Type, error) {
	t.Helper()
	to, err := types.Of(s, n)
	if want, wantErr := modelOf(s, n); to != want || !reflect.DeepEqual(err, wantErr) {
		t.Errorf("Of(%s) is %d, %s; want %d, %s", short(n), to, told(err), want, told(wantErr))
	}
	return to, err
}

func expectCheckAsModel(t *testing.T, s api.Strategy) error {
	t.Helper()
	err := types.Check(s)
	if want := modelCheck(s); !reflect.DeepEqual(err, want) {
		t.Errorf("Check(%s) is %s; want %s", short(s), told(err), told(want))
	}
	return err
}
