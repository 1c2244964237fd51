package mean

import (
	"tripwire/api"
	"tripwire/snap"
)

// What is not so, and what is, as numbers.
const (
	isFalse = 0
	isTrue  = 1
)

// fault is what gives up all that is being reckoned.
type fault api.Errno

// reckoned is what reckon comes to; or nothing, and the fault by which it gave up.
func reckoned[T any](reckon func() T) (is T, why api.Errno) {
	defer func() {
		if f, gaveUp := recover().(fault); gaveUp {
			why = api.Errno(f)
		}
	}()
	return reckon(), api.OK
}

// sight is what expressions are reckoned with: a snapshot, and the registers as they stand.
type sight struct {
	snap   api.Snap
	regs   []int64
	places map[string]int // of registers, by their names
}

// look is a sight with a mode's registers, in memory of its own.
func look(s api.Strategy, m api.Mode, w api.Snap) sight {
	return sight{snap: w, regs: copied(m).Regs, places: placesOf(s.Regs, func(r api.Reg) string { return r.Name })}
}

// placesOf tells where each of a list's things stands, by its name.
func placesOf[T any](things []T, name func(T) string) map[string]int {
	places := map[string]int{}
	for i, x := range things {
		places[name(x)] = i
	}
	return places
}

// value is that of an expression that has a type.
func (x *sight) value(n api.Node) int64 {
	switch n.Kind {
	case api.NodeLit:
		return n.N
	case api.NodeReg:
		return x.regs[x.places[n.Name]]
	case api.NodeField:
		return x.field(n.Field)
	case api.NodeHas:
		return truth(snap.Get(x.snap, n.Field) != 0)
	case api.NodeCond:
		if x.value(n.Kids[0]) == isTrue {
			return x.value(n.Kids[1])
		}
		return x.value(n.Kids[2])
	case api.NodeConv:
		return x.value(n.Kids[0])
	}
	return deed(n.Oper)(x, n.Kids)
}

// field is a number of the snapshot; a price of 0 is none.
func (x *sight) field(f api.Field) int64 {
	n := snap.Get(x.snap, f)
	switch f {
	case api.FieldBid, api.FieldAsk, api.FieldLast:
		if n == 0 {
			panic(fault(api.ErrMeanAbsent))
		}
	}
	return n
}

func truth(is bool) int64 {
	if is {
		return isTrue
	}
	return isFalse
}
