package types

import (
	"errors"

	"tripwire/api"
)

// names are those of one kind.
type names map[string]struct{}

// known is what a strategy's names stand for; registers, slots and states have names of their own each.
type known struct {
	regs   registers
	slots  names
	states names
}

// declared is all that a strategy's parts name, or what is wrong with the first that is.
func declared(s api.Strategy) (known, error) {
	k := known{regs: registers{}, slots: names{}, states: names{}}
	for _, r := range s.Regs {
		if err := k.addReg(r); err != nil {
			return known{}, err
		}
	}
	for _, x := range s.Slots {
		if err := k.slots.add(x.Name, x.At); err != nil {
			return known{}, err
		}
	}
	for _, x := range s.States {
		if err := k.states.add(x.Name, x.At); err != nil {
			return known{}, err
		}
	}
	return k, nil
}

func (k known) addReg(r api.Reg) error {
	if _, is := k.regs[r.Name]; is {
		return wrong(r.At, api.ErrTypesTwice)
	}
	// A literal always has a type, and so has a number below a minus.
	if t, _ := k.regs.typeOf(r.Init); t != r.Type {
		return wrong(r.At, api.ErrTypesFit)
	}
	k.regs[r.Name] = r.Type
	return nil
}

func (l names) add(name string, at int) error {
	if l.has(name) {
		return wrong(at, api.ErrTypesTwice)
	}
	l[name] = struct{}{}
	return nil
}

func (l names) has(name string) bool {
	_, is := l[name]
	return is
}

// wrong is what Check says of a part itself.
func wrong(at int, no api.Errno) error {
	return &api.Failure{Call: callCheck, At: at, Err: no}
}

// around is what Check says of an expression in which something is wrong: it is told at the place that was found below.
func around(found error) error {
	out := &api.Failure{Call: callCheck, Err: found}
	var below *api.Failure
	if errors.As(found, &below) {
		out.At = below.At
	}
	return out
}
